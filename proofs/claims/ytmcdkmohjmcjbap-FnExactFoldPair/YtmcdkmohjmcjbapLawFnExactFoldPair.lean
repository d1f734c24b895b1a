/- For all integers and elements: FoldPair answers as its model does. No condition. -/
import Derived.Test.YtmcdkmohjmcjbapRows
import Derived.WalkKit
import Derived.ProofKit
import Derived.OpenShut
import Derived.Test.YtmcdkmohjmcjbapFopX
import Derived.Test.YtmcdkmohjmcjbapLawH
import Derived.Test.YtmcdkmohjmcjbapStepL
import Derived.ShutString
import Derived.ChangeOld
import Derived.Below
import Derived.Lib.SmallJoins
import Derived.Deep.SlicePairs
namespace Go.Proofs.Ytmcdkmohjmcjbap.fnExactFoldPair
open Go.ChangeShapes Go.WideShapes Go.ChangeAt Go.RowKit Go.Joins Go.Deep
set_option linter.unusedVariables false
set_option linter.unusedSimpArgs false

theorem own : ownKnob Try.prog.godebug = none := by kernel_rfl
theorem laidOut : laidOutB Try.prog = true := by kernel_rfl
theorem cellsE : Try.prog.cellsOf 36 = 2 := by kernel_rfl
theorem cellsI : Try.prog.cellsOf 3 = 1 := by kernel_rfl

set_option maxRecDepth 100000 in
set_option maxHeartbeats 4000000 in
theorem walk (a0 : Int) (h0 : (Lit.int .i64 a0).wf = true) (a1 : Int) (h1 : (Lit.int .i64 a1).wf = true) (a2 b2 : Int) (a3 b3 : Int) (a4 b4 : Int) (w : World)  :
    Calls Try.prog 6 #[.int .i64 a0, .int .i64 a1, .agg #[.int .i64 a2, .int .i64 b2], .agg #[.int .i64 a3, .int .i64 b3], .agg #[.int .i64 a4, .int .i64 b4]] w fun e w' => e = .returned (.bool true) ∧ Below w.heap.size w w' := by
  obtain ⟨C, hC⟩ : ∃ C, C = fpc a0 a1 a2 b2 a3 b3 a4 b4 := ⟨_, rfl⟩
  obtain ⟨X, hX⟩ : ∃ X, X = fpv a0 a1 a2 b2 a3 b3 a4 b4 := ⟨_, rfl⟩
  have HS := hik (fun (w' : World) => sPairX_any a0 a1 a2 b2 a3 b3 a4 b4 w')
  have HI := hik (fun (w' : World) => pairX_any a0 a1 a2 b2 a3 b3 a4 b4 w')
  rw [← hC, ← hX] at HS HI
  clear hC hX
  have z0 : (((w.alloc (.cells #[.int .i64 a2, .int .i64 b2] 36)).alloc (.cells #[.int .i64 a3, .int .i64 b3] 36)).alloc (.cells #[.int .i64 a4, .int .i64 b4] 36)).cell? ⟨w.heap.size, 0, none⟩ = some (.int .i64 a2) := by go_simp
  have z1 : (((w.alloc (.cells #[.int .i64 a2, .int .i64 b2] 36)).alloc (.cells #[.int .i64 a3, .int .i64 b3] 36)).alloc (.cells #[.int .i64 a4, .int .i64 b4] 36)).cell? ⟨w.heap.size, 1, none⟩ = some (.int .i64 b2) := by go_simp
  have z2 : (((w.alloc (.cells #[.int .i64 a2, .int .i64 b2] 36)).alloc (.cells #[.int .i64 a3, .int .i64 b3] 36)).alloc (.cells #[.int .i64 a4, .int .i64 b4] 36)).cell? ⟨w.heap.size + 1, 0, none⟩ = some (.int .i64 a3) := by go_simp
  have z3 : (((w.alloc (.cells #[.int .i64 a2, .int .i64 b2] 36)).alloc (.cells #[.int .i64 a3, .int .i64 b3] 36)).alloc (.cells #[.int .i64 a4, .int .i64 b4] 36)).cell? ⟨w.heap.size + 1, 1, none⟩ = some (.int .i64 b3) := by go_simp
  have z4 : (((w.alloc (.cells #[.int .i64 a2, .int .i64 b2] 36)).alloc (.cells #[.int .i64 a3, .int .i64 b3] 36)).alloc (.cells #[.int .i64 a4, .int .i64 b4] 36)).cell? ⟨w.heap.size + 1 + 1, 0, none⟩ = some (.int .i64 a4) := by go_simp
  have z5 : (((w.alloc (.cells #[.int .i64 a2, .int .i64 b2] 36)).alloc (.cells #[.int .i64 a3, .int .i64 b3] 36)).alloc (.cells #[.int .i64 a4, .int .i64 b4] 36)).cell? ⟨w.heap.size + 1 + 1, 1, none⟩ = some (.int .i64 b4) := by go_simp
  have G0 := hik ((((Chg.refl nob w).alloc (.cells #[.int .i64 a2, .int .i64 b2] 36)).alloc (.cells #[.int .i64 a3, .int .i64 b3] 36)).alloc (.cells #[.int .i64 a4, .int .i64 b4] 36))
  have hl0 : w.heap.size + 1 + 1 < (((w.alloc (.cells #[.int .i64 a2, .int .i64 b2] 36)).alloc (.cells #[.int .i64 a3, .int .i64 b3] 36)).alloc (.cells #[.int .i64 a4, .int .i64 b4] 36)).heap.size := by simp
  go_enter Try.func6, Try.ntmps6
  go_upto_region 1 with fail
  generalize hE : (((w.alloc (.cells #[.int .i64 a2, .int .i64 b2] 36)).alloc (.cells #[.int .i64 a3, .int .i64 b3] 36)).alloc (.cells #[.int .i64 a4, .int .i64 b4] 36)) = W0 at z0 z1 z2 z3 z4 z5 G0 hl0 ⊢
  clear hE
  go_cut [11, 12] from 15 (fun p c W => ∃ gg : Nat, p = .pointer (some ⟨gg, 0, none⟩) ∧ c = .int .i64 C ∧ Hid (ElB W gg X) ∧ Hid (Chg nob W0 W))
  case first =>
    have KW := hik ((Chg.refl nob W0).drew1)
    have SA := hik (fun (WW : World) (kW : Chg nob W0 WW) => (show (WW.cell? ⟨w.heap.size, 0, none⟩ = some (.int .i64 a2) ∧ WW.cell? ⟨w.heap.size, 1, none⟩ = some (.int .i64 b2) ∧ WW.cell? ⟨(w.heap.size + 1), 0, none⟩ = some (.int .i64 a3) ∧ WW.cell? ⟨(w.heap.size + 1), 1, none⟩ = some (.int .i64 b3) ∧ WW.cell? ⟨(w.heap.size + 1 + 1), 0, none⟩ = some (.int .i64 a4) ∧ WW.cell? ⟨(w.heap.size + 1 + 1), 1, none⟩ = some (.int .i64 b4)) from ⟨kW.see z0, kW.see z1, kW.see z2, kW.see z3, kW.see z4, kW.see z5⟩))
    refine wp_region_held_drew (S := fun w' => w'.cell? ⟨w.heap.size, 0, none⟩ = some (.int .i64 a2) ∧ w'.cell? ⟨w.heap.size, 1, none⟩ = some (.int .i64 b2) ∧ w'.cell? ⟨(w.heap.size + 1), 0, none⟩ = some (.int .i64 a3) ∧ w'.cell? ⟨(w.heap.size + 1), 1, none⟩ = some (.int .i64 b3) ∧ w'.cell? ⟨(w.heap.size + 1 + 1), 0, none⟩ = some (.int .i64 a4) ∧ w'.cell? ⟨(w.heap.size + 1 + 1), 1, none⟩ = some (.int .i64 b4)) (by kernel_rfl) ⟨z0, z1, z2, z3, z4, z5⟩ (fun hHeld => ?_)
    refine wpAnyH_take (i := 0) (v := ?_) rfl (by kernel_rfl) (by kernel_rfl) (by kernel_rfl) (fun _ _ _ h => h) (Or.inl ⟨by rfl, ?_⟩) (by assumption) ?_
    rotate_left 1
    · (intro w' hSw; (try dsimp only at hSw); go_simp; try with_reducible rfl)
    try simp only [Act.put, List.setIfInBounds_toArray, List.set_cons_zero, List.set_cons_succ, List.getElem_toArray, List.getElem_cons_zero, List.getElem_cons_succ]
    refine wpAnyH_take (i := 1) (v := ?_) rfl (by kernel_rfl) (by kernel_rfl) (by kernel_rfl) (fun _ _ _ h => h) (Or.inl ⟨by rfl, ?_⟩) (by assumption) ?_
    rotate_left 1
    · (intro w' hSw; (try dsimp only at hSw); go_simp; try with_reducible rfl)
    try simp only [Act.put, List.setIfInBounds_toArray, List.set_cons_zero, List.set_cons_succ, List.getElem_toArray, List.getElem_cons_zero, List.getElem_cons_succ]
    refine wpAnyH_take (i := 2) (v := ?_) rfl (by kernel_rfl) (by kernel_rfl) (by kernel_rfl) (fun _ _ _ h => h) (Or.inl ⟨by rfl, ?_⟩) (by assumption) ?_
    rotate_left 1
    · (intro w' hSw; (try dsimp only at hSw); go_simp; try with_reducible rfl)
    try simp only [Act.put, List.setIfInBounds_toArray, List.set_cons_zero, List.set_cons_succ, List.getElem_toArray, List.getElem_cons_zero, List.getElem_cons_succ]
    refine wpAnyH_take (i := 4) (v := ?_) rfl (by kernel_rfl) (by kernel_rfl) (by kernel_rfl) (fun _ _ _ h => h) (Or.inl ⟨by rfl, ?_⟩) (by assumption) ?_
    rotate_left 1
    · (intro w' hSw; (try dsimp only at hSw); go_simp; try with_reducible rfl)
    try simp only [Act.put, List.setIfInBounds_toArray, List.set_cons_zero, List.set_cons_succ, List.getElem_toArray, List.getElem_cons_zero, List.getElem_cons_succ]
    refine wpAnyH_take (i := 6) (v := ?_) rfl (by kernel_rfl) (by kernel_rfl) (by kernel_rfl) (fun _ _ _ h => h) (Or.inl ⟨by rfl, ?_⟩) (by assumption) ?_
    rotate_left 1
    · (intro w' hSw; (try dsimp only at hSw); go_simp; try with_reducible rfl)
    try simp only [Act.put, List.setIfInBounds_toArray, List.set_cons_zero, List.set_cons_succ, List.getElem_toArray, List.getElem_cons_zero, List.getElem_cons_succ]
    refine wpAnyH_ready (rs := [3, 12]) (by kernel_rfl) (by simp) ?_
    refine AllReadyH.cons rfl (fun K hK => ?_) ?_
    · refine stepL_callN 20 #[.tmp 18] #[36] (by rfl) (by rfl) #[.agg #[.int .i64 a2, .int .i64 b2]] (by simp only [List.map_toArray, List.map_cons, List.map_nil] <;> rfl) (run_go Try.func20 (by kernel_rfl) (by kernel_rfl) _ _) (toExt_any a2 b2 _) ?_
      rintro e V1 ⟨he, kk⟩
      refine ⟨_, he, ?_⟩
      replace KW := hik (KW.out.trans kk)
      refine hK.out _ _ (SA.out _ KW.out) (fun hHeld => ?_)
      clear hK K
      try simp only [Act.put, List.setIfInBounds_toArray, List.set_cons_zero, List.set_cons_succ, List.getElem_toArray, List.getElem_cons_zero, List.getElem_cons_succ]
      clear he kk
      refine wpAnyH_ready (rs := [5, 12]) (by kernel_rfl) (by simp) ?_
      refine AllReadyH.cons rfl (fun K hK => ?_) ?_
      · refine stepL_callN 20 #[.tmp 20] #[36] (by rfl) (by rfl) #[.agg #[.int .i64 a3, .int .i64 b3]] (by simp only [List.map_toArray, List.map_cons, List.map_nil] <;> rfl) (run_go Try.func20 (by kernel_rfl) (by kernel_rfl) _ _) (toExt_any a3 b3 _) ?_
        rintro e V2 ⟨he, kk⟩
        refine ⟨_, he, ?_⟩
        replace KW := hik (KW.out.trans kk)
        refine hK.out _ _ (SA.out _ KW.out) (fun hHeld => ?_)
        clear hK K
        try simp only [Act.put, List.setIfInBounds_toArray, List.set_cons_zero, List.set_cons_succ, List.getElem_toArray, List.getElem_cons_zero, List.getElem_cons_succ]
        clear he kk
        refine wpAnyH_ready (rs := [7, 12]) (by kernel_rfl) (by simp) ?_
        refine AllReadyH.cons rfl (fun K hK => ?_) ?_
        · refine stepL_callN 20 #[.tmp 22] #[36] (by rfl) (by rfl) #[.agg #[.int .i64 a4, .int .i64 b4]] (by simp only [List.map_toArray, List.map_cons, List.map_nil] <;> rfl) (run_go Try.func20 (by kernel_rfl) (by kernel_rfl) _ _) (toExt_any a4 b4 _) ?_
          rintro e V3 ⟨he, kk⟩
          refine ⟨_, he, ?_⟩
          replace KW := hik (KW.out.trans kk)
          refine hK.out _ _ (SA.out _ KW.out) (fun hHeld => ?_)
          clear hK K
          try simp only [Act.put, List.setIfInBounds_toArray, List.set_cons_zero, List.set_cons_succ, List.getElem_toArray, List.getElem_cons_zero, List.getElem_cons_succ]
          clear he kk
          refine wpAnyH_ready (rs := [8, 12]) (by kernel_rfl) (by simp) ?_
          refine AllReadyH.cons rfl (fun K hK => ?_) ?_
          · refine stepL_callN 19 #[.tmp 16, .tmp 17, .tmp 19, .tmp 21, .tmp 23] #[3, 3, 37, 37, 37] (by rfl) (by rfl) #[.int .i64 a0, .int .i64 a1, .agg #[.int .i64 a2, .int .i64 b2], .agg #[.int .i64 a3, .int .i64 b3], .agg #[.int .i64 a4, .int .i64 b4]] (by simp only [List.map_toArray, List.map_cons, List.map_nil] <;> rfl) (run_go Try.func19 (by kernel_rfl) (by kernel_rfl) _ _) (HS.out _) ?_
            rintro e V4 ⟨he, kk⟩
            refine ⟨_, he, ?_⟩
            replace KW := hik (KW.out.trans kk)
            refine hK.out _ _ (SA.out _ KW.out) (fun hHeld => ?_)
            clear hK K
            try simp only [Act.put, List.setIfInBounds_toArray, List.set_cons_zero, List.set_cons_succ, List.getElem_toArray, List.getElem_cons_zero, List.getElem_cons_succ]
            clear he kk
            refine wpAnyH_take (i := 9) (v := ?_) rfl (by kernel_rfl) (by kernel_rfl) (by kernel_rfl) (fun _ _ _ h => h) (Or.inl ⟨by rfl, ?_⟩) (by assumption) ?_
            rotate_left 1
            · (intro w' hSw; (try dsimp only at hSw); go_simp; try with_reducible rfl)
            try simp only [Act.put, List.setIfInBounds_toArray, List.set_cons_zero, List.set_cons_succ, List.getElem_toArray, List.getElem_cons_zero, List.getElem_cons_succ]
            refine wpAnyH_take (i := 10) (v := ?_) rfl (by kernel_rfl) (by kernel_rfl) (by kernel_rfl) (fun _ _ _ h => h) (Or.inl ⟨by rfl, ?_⟩) (by assumption) ?_
            rotate_left 1
            · (intro w' hSw; (try dsimp only at hSw); go_simp; try with_reducible rfl)
            try simp only [Act.put, List.setIfInBounds_toArray, List.set_cons_zero, List.set_cons_succ, List.getElem_toArray, List.getElem_cons_zero, List.getElem_cons_succ]
            refine wpAnyH_take (i := 11) (v := ?_) rfl (by kernel_rfl) (by kernel_rfl) (by kernel_rfl) (fun _ _ _ h => h) (Or.inl ⟨by rfl, ?_⟩) (by assumption) ?_
            rotate_left 1
            · (intro w' hSw; (try dsimp only at hSw); go_simp; try with_reducible rfl)
            try simp only [Act.put, List.setIfInBounds_toArray, List.set_cons_zero, List.set_cons_succ, List.getElem_toArray, List.getElem_cons_zero, List.getElem_cons_succ]
            refine wpAnyH_ready (rs := [12]) (by kernel_rfl) (by simp) ?_
            refine AllReadyH.cons rfl (fun K hK => ?_) AllReadyH.nil
            simp only [List.getElem_toArray, List.getElem_cons_zero, List.getElem_cons_succ]
            go_simp
            have E7 : Hid (ElB (World.alloc V4 (.cells #[.int .i64 0, .int .i64 0] 37)) V4.heap.size El.zr) := hik (ElB.zero V4)
            have lq : W0.heap.size ≤ V4.heap.size := KW.out.size
            replace KW : Hid (Chg nob W0 (World.alloc V4 (.cells #[.int .i64 0, .int .i64 0] 37))) := hik (KW.out.alloc _)
            generalize hUA : (World.alloc V4 (.cells #[.int .i64 0, .int .i64 0] 37)) = UA at E7 KW ⊢
            clear hUA
            obtain ⟨gA, hgA⟩ : ∃ g, g = V4.heap.size := ⟨_, rfl⟩
            have lA : W0.heap.size ≤ gA := by rw [hgA]; exact lq
            clear lq
            rw [← hgA] at E7 ⊢
            clear hgA
            refine hK.out _ _ (SA.out _ KW.out) (fun hHeld => ?_)
            clear hK K
            try simp only [Act.put, List.setIfInBounds_toArray, List.set_cons_zero, List.set_cons_succ, List.getElem_toArray, List.getElem_cons_zero, List.getElem_cons_succ]
            refine wpAnyH_ready (rs := [13]) (by kernel_rfl) (by simp) ?_
            refine AllReadyH.cons rfl (fun K hK => ?_) AllReadyH.nil
            have y0 := E7.out.c0
            have y1 := E7.out.c1
            have f0 := E7.out.fz 0
            have f1 := E7.out.fz 1
            have l7 := E7.out.lt
            have SS := SA.out _ KW.out
            simp only [List.getElem_toArray, List.getElem_cons_zero, List.getElem_cons_succ]
            go_simp
            refine hK.out _ _ ⟨look_two (by omega) (SS.1) 0 1 _ _, look_two (by omega) (SS.2.1) 0 1 _ _, look_two (by omega) (SS.2.2.1) 0 1 _ _, look_two (by omega) (SS.2.2.2.1) 0 1 _ _, look_two (by omega) (SS.2.2.2.2.1) 0 1 _ _, look_two (by omega) (SS.2.2.2.2.2) 0 1 _ _⟩ (fun hHeld => ?_)
            clear hK K
            try simp only [Act.put, List.setIfInBounds_toArray, List.set_cons_zero, List.set_cons_succ, List.getElem_toArray, List.getElem_cons_zero, List.getElem_cons_succ]
            clear y0 y1 f0 f1 l7 SS
            replace E7 := hik (E7.out.set X)
            replace KW := hik (chg2_at KW.out gA (fun l => absurd l (by omega)) 0 1 (.int .i64 X.v.1) (.int .i64 X.v.2))
            generalize hUS : ((UA.setCell ⟨gA, 0, none⟩ (.int .i64 X.v.1)).setCell ⟨gA, 1, none⟩ (.int .i64 X.v.2)) = US at E7 KW hHeld ⊢
            clear hUS
            refine wpAnyH_take (i := 14) (v := ?_) rfl (by kernel_rfl) (by kernel_rfl) (by kernel_rfl) (fun _ _ _ h => h) (Or.inl ⟨by rfl, ?_⟩) (by assumption) ?_
            rotate_left 1
            · (intro w' hSw; (try dsimp only at hSw); go_simp; try with_reducible rfl)
            try simp only [Act.put, List.setIfInBounds_toArray, List.set_cons_zero, List.set_cons_succ, List.getElem_toArray, List.getElem_cons_zero, List.getElem_cons_succ]
            refine wpAnyH_done (by kernel_rfl) ?_ _
            go_wp2_with fail
            go_meet
            case rel => exact ⟨gA, rfl, rfl, E7, KW⟩
          · refine AllReadyH.cons rfl (fun K hK => ?_) AllReadyH.nil
            simp only [List.getElem_toArray, List.getElem_cons_zero, List.getElem_cons_succ]
            go_simp
            have E7 : Hid (ElB (World.alloc V3 (.cells #[.int .i64 0, .int .i64 0] 37)) V3.heap.size El.zr) := hik (ElB.zero V3)
            have lq : W0.heap.size ≤ V3.heap.size := KW.out.size
            replace KW : Hid (Chg nob W0 (World.alloc V3 (.cells #[.int .i64 0, .int .i64 0] 37))) := hik (KW.out.alloc _)
            generalize hUA : (World.alloc V3 (.cells #[.int .i64 0, .int .i64 0] 37)) = UA at E7 KW ⊢
            clear hUA
            obtain ⟨gA, hgA⟩ : ∃ g, g = V3.heap.size := ⟨_, rfl⟩
            have lA : W0.heap.size ≤ gA := by rw [hgA]; exact lq
            clear lq
            rw [← hgA] at E7 ⊢
            clear hgA
            refine hK.out _ _ (SA.out _ KW.out) (fun hHeld => ?_)
            clear hK K
            try simp only [Act.put, List.setIfInBounds_toArray, List.set_cons_zero, List.set_cons_succ, List.getElem_toArray, List.getElem_cons_zero, List.getElem_cons_succ]
            refine wpAnyH_ready (rs := [8]) (by kernel_rfl) (by simp) ?_
            refine AllReadyH.cons rfl (fun K hK => ?_) AllReadyH.nil
            refine stepL_callN 19 #[.tmp 16, .tmp 17, .tmp 19, .tmp 21, .tmp 23] #[3, 3, 37, 37, 37] (by rfl) (by rfl) #[.int .i64 a0, .int .i64 a1, .agg #[.int .i64 a2, .int .i64 b2], .agg #[.int .i64 a3, .int .i64 b3], .agg #[.int .i64 a4, .int .i64 b4]] (by simp only [List.map_toArray, List.map_cons, List.map_nil] <;> rfl) (run_go Try.func19 (by kernel_rfl) (by kernel_rfl) _ _) (HS.out _) ?_
            rintro e V4 ⟨he, kk⟩
            replace E7 := hik (E7.out.keep kk)
            refine ⟨_, he, ?_⟩
            replace KW := hik (KW.out.trans kk)
            refine hK.out _ _ (SA.out _ KW.out) (fun hHeld => ?_)
            clear hK K
            try simp only [Act.put, List.setIfInBounds_toArray, List.set_cons_zero, List.set_cons_succ, List.getElem_toArray, List.getElem_cons_zero, List.getElem_cons_succ]
            clear he kk
            refine wpAnyH_take (i := 9) (v := ?_) rfl (by kernel_rfl) (by kernel_rfl) (by kernel_rfl) (fun _ _ _ h => h) (Or.inl ⟨by rfl, ?_⟩) (by assumption) ?_
            rotate_left 1
            · (intro w' hSw; (try dsimp only at hSw); go_simp; try with_reducible rfl)
            try simp only [Act.put, List.setIfInBounds_toArray, List.set_cons_zero, List.set_cons_succ, List.getElem_toArray, List.getElem_cons_zero, List.getElem_cons_succ]
            refine wpAnyH_take (i := 10) (v := ?_) rfl (by kernel_rfl) (by kernel_rfl) (by kernel_rfl) (fun _ _ _ h => h) (Or.inl ⟨by rfl, ?_⟩) (by assumption) ?_
            rotate_left 1
            · (intro w' hSw; (try dsimp only at hSw); go_simp; try with_reducible rfl)
            try simp only [Act.put, List.setIfInBounds_toArray, List.set_cons_zero, List.set_cons_succ, List.getElem_toArray, List.getElem_cons_zero, List.getElem_cons_succ]
            refine wpAnyH_take (i := 11) (v := ?_) rfl (by kernel_rfl) (by kernel_rfl) (by kernel_rfl) (fun _ _ _ h => h) (Or.inl ⟨by rfl, ?_⟩) (by assumption) ?_
            rotate_left 1
            · (intro w' hSw; (try dsimp only at hSw); go_simp; try with_reducible rfl)
            try simp only [Act.put, List.setIfInBounds_toArray, List.set_cons_zero, List.set_cons_succ, List.getElem_toArray, List.getElem_cons_zero, List.getElem_cons_succ]
            refine wpAnyH_ready (rs := [13]) (by kernel_rfl) (by simp) ?_
            refine AllReadyH.cons rfl (fun K hK => ?_) AllReadyH.nil
            have y0 := E7.out.c0
            have y1 := E7.out.c1
            have f0 := E7.out.fz 0
            have f1 := E7.out.fz 1
            have l7 := E7.out.lt
            have SS := SA.out _ KW.out
            simp only [List.getElem_toArray, List.getElem_cons_zero, List.getElem_cons_succ]
            go_simp
            refine hK.out _ _ ⟨look_two (by omega) (SS.1) 0 1 _ _, look_two (by omega) (SS.2.1) 0 1 _ _, look_two (by omega) (SS.2.2.1) 0 1 _ _, look_two (by omega) (SS.2.2.2.1) 0 1 _ _, look_two (by omega) (SS.2.2.2.2.1) 0 1 _ _, look_two (by omega) (SS.2.2.2.2.2) 0 1 _ _⟩ (fun hHeld => ?_)
            clear hK K
            try simp only [Act.put, List.setIfInBounds_toArray, List.set_cons_zero, List.set_cons_succ, List.getElem_toArray, List.getElem_cons_zero, List.getElem_cons_succ]
            clear y0 y1 f0 f1 l7 SS
            replace E7 := hik (E7.out.set X)
            replace KW := hik (chg2_at KW.out gA (fun l => absurd l (by omega)) 0 1 (.int .i64 X.v.1) (.int .i64 X.v.2))
            generalize hUS : ((V4.setCell ⟨gA, 0, none⟩ (.int .i64 X.v.1)).setCell ⟨gA, 1, none⟩ (.int .i64 X.v.2)) = US at E7 KW hHeld ⊢
            clear hUS
            refine wpAnyH_take (i := 14) (v := ?_) rfl (by kernel_rfl) (by kernel_rfl) (by kernel_rfl) (fun _ _ _ h => h) (Or.inl ⟨by rfl, ?_⟩) (by assumption) ?_
            rotate_left 1
            · (intro w' hSw; (try dsimp only at hSw); go_simp; try with_reducible rfl)
            try simp only [Act.put, List.setIfInBounds_toArray, List.set_cons_zero, List.set_cons_succ, List.getElem_toArray, List.getElem_cons_zero, List.getElem_cons_succ]
            refine wpAnyH_done (by kernel_rfl) ?_ _
            go_wp2_with fail
            go_meet
            case rel => exact ⟨gA, rfl, rfl, E7, KW⟩
        · refine AllReadyH.cons rfl (fun K hK => ?_) AllReadyH.nil
          simp only [List.getElem_toArray, List.getElem_cons_zero, List.getElem_cons_succ]
          go_simp
          have E7 : Hid (ElB (World.alloc V2 (.cells #[.int .i64 0, .int .i64 0] 37)) V2.heap.size El.zr) := hik (ElB.zero V2)
          have lq : W0.heap.size ≤ V2.heap.size := KW.out.size
          replace KW : Hid (Chg nob W0 (World.alloc V2 (.cells #[.int .i64 0, .int .i64 0] 37))) := hik (KW.out.alloc _)
          generalize hUA : (World.alloc V2 (.cells #[.int .i64 0, .int .i64 0] 37)) = UA at E7 KW ⊢
          clear hUA
          obtain ⟨gA, hgA⟩ : ∃ g, g = V2.heap.size := ⟨_, rfl⟩
          have lA : W0.heap.size ≤ gA := by rw [hgA]; exact lq
          clear lq
          rw [← hgA] at E7 ⊢
          clear hgA
          refine hK.out _ _ (SA.out _ KW.out) (fun hHeld => ?_)
          clear hK K
          try simp only [Act.put, List.setIfInBounds_toArray, List.set_cons_zero, List.set_cons_succ, List.getElem_toArray, List.getElem_cons_zero, List.getElem_cons_succ]
          refine wpAnyH_ready (rs := [7]) (by kernel_rfl) (by simp) ?_
          refine AllReadyH.cons rfl (fun K hK => ?_) AllReadyH.nil
          refine stepL_callN 20 #[.tmp 22] #[36] (by rfl) (by rfl) #[.agg #[.int .i64 a4, .int .i64 b4]] (by simp only [List.map_toArray, List.map_cons, List.map_nil] <;> rfl) (run_go Try.func20 (by kernel_rfl) (by kernel_rfl) _ _) (toExt_any a4 b4 _) ?_
          rintro e V3 ⟨he, kk⟩
          replace E7 := hik (E7.out.keep kk)
          refine ⟨_, he, ?_⟩
          replace KW := hik (KW.out.trans kk)
          refine hK.out _ _ (SA.out _ KW.out) (fun hHeld => ?_)
          clear hK K
          try simp only [Act.put, List.setIfInBounds_toArray, List.set_cons_zero, List.set_cons_succ, List.getElem_toArray, List.getElem_cons_zero, List.getElem_cons_succ]
          clear he kk
          refine wpAnyH_ready (rs := [8]) (by kernel_rfl) (by simp) ?_
          refine AllReadyH.cons rfl (fun K hK => ?_) AllReadyH.nil
          refine stepL_callN 19 #[.tmp 16, .tmp 17, .tmp 19, .tmp 21, .tmp 23] #[3, 3, 37, 37, 37] (by rfl) (by rfl) #[.int .i64 a0, .int .i64 a1, .agg #[.int .i64 a2, .int .i64 b2], .agg #[.int .i64 a3, .int .i64 b3], .agg #[.int .i64 a4, .int .i64 b4]] (by simp only [List.map_toArray, List.map_cons, List.map_nil] <;> rfl) (run_go Try.func19 (by kernel_rfl) (by kernel_rfl) _ _) (HS.out _) ?_
          rintro e V4 ⟨he, kk⟩
          replace E7 := hik (E7.out.keep kk)
          refine ⟨_, he, ?_⟩
          replace KW := hik (KW.out.trans kk)
          refine hK.out _ _ (SA.out _ KW.out) (fun hHeld => ?_)
          clear hK K
          try simp only [Act.put, List.setIfInBounds_toArray, List.set_cons_zero, List.set_cons_succ, List.getElem_toArray, List.getElem_cons_zero, List.getElem_cons_succ]
          clear he kk
          refine wpAnyH_take (i := 9) (v := ?_) rfl (by kernel_rfl) (by kernel_rfl) (by kernel_rfl) (fun _ _ _ h => h) (Or.inl ⟨by rfl, ?_⟩) (by assumption) ?_
          rotate_left 1
          · (intro w' hSw; (try dsimp only at hSw); go_simp; try with_reducible rfl)
          try simp only [Act.put, List.setIfInBounds_toArray, List.set_cons_zero, List.set_cons_succ, List.getElem_toArray, List.getElem_cons_zero, List.getElem_cons_succ]
          refine wpAnyH_take (i := 10) (v := ?_) rfl (by kernel_rfl) (by kernel_rfl) (by kernel_rfl) (fun _ _ _ h => h) (Or.inl ⟨by rfl, ?_⟩) (by assumption) ?_
          rotate_left 1
          · (intro w' hSw; (try dsimp only at hSw); go_simp; try with_reducible rfl)
          try simp only [Act.put, List.setIfInBounds_toArray, List.set_cons_zero, List.set_cons_succ, List.getElem_toArray, List.getElem_cons_zero, List.getElem_cons_succ]
          refine wpAnyH_take (i := 11) (v := ?_) rfl (by kernel_rfl) (by kernel_rfl) (by kernel_rfl) (fun _ _ _ h => h) (Or.inl ⟨by rfl, ?_⟩) (by assumption) ?_
          rotate_left 1
          · (intro w' hSw; (try dsimp only at hSw); go_simp; try with_reducible rfl)
          try simp only [Act.put, List.setIfInBounds_toArray, List.set_cons_zero, List.set_cons_succ, List.getElem_toArray, List.getElem_cons_zero, List.getElem_cons_succ]
          refine wpAnyH_ready (rs := [13]) (by kernel_rfl) (by simp) ?_
          refine AllReadyH.cons rfl (fun K hK => ?_) AllReadyH.nil
          have y0 := E7.out.c0
          have y1 := E7.out.c1
          have f0 := E7.out.fz 0
          have f1 := E7.out.fz 1
          have l7 := E7.out.lt
          have SS := SA.out _ KW.out
          simp only [List.getElem_toArray, List.getElem_cons_zero, List.getElem_cons_succ]
          go_simp
          refine hK.out _ _ ⟨look_two (by omega) (SS.1) 0 1 _ _, look_two (by omega) (SS.2.1) 0 1 _ _, look_two (by omega) (SS.2.2.1) 0 1 _ _, look_two (by omega) (SS.2.2.2.1) 0 1 _ _, look_two (by omega) (SS.2.2.2.2.1) 0 1 _ _, look_two (by omega) (SS.2.2.2.2.2) 0 1 _ _⟩ (fun hHeld => ?_)
          clear hK K
          try simp only [Act.put, List.setIfInBounds_toArray, List.set_cons_zero, List.set_cons_succ, List.getElem_toArray, List.getElem_cons_zero, List.getElem_cons_succ]
          clear y0 y1 f0 f1 l7 SS
          replace E7 := hik (E7.out.set X)
          replace KW := hik (chg2_at KW.out gA (fun l => absurd l (by omega)) 0 1 (.int .i64 X.v.1) (.int .i64 X.v.2))
          generalize hUS : ((V4.setCell ⟨gA, 0, none⟩ (.int .i64 X.v.1)).setCell ⟨gA, 1, none⟩ (.int .i64 X.v.2)) = US at E7 KW hHeld ⊢
          clear hUS
          refine wpAnyH_take (i := 14) (v := ?_) rfl (by kernel_rfl) (by kernel_rfl) (by kernel_rfl) (fun _ _ _ h => h) (Or.inl ⟨by rfl, ?_⟩) (by assumption) ?_
          rotate_left 1
          · (intro w' hSw; (try dsimp only at hSw); go_simp; try with_reducible rfl)
          try simp only [Act.put, List.setIfInBounds_toArray, List.set_cons_zero, List.set_cons_succ, List.getElem_toArray, List.getElem_cons_zero, List.getElem_cons_succ]
          refine wpAnyH_done (by kernel_rfl) ?_ _
          go_wp2_with fail
          go_meet
          case rel => exact ⟨gA, rfl, rfl, E7, KW⟩
      · refine AllReadyH.cons rfl (fun K hK => ?_) AllReadyH.nil
        simp only [List.getElem_toArray, List.getElem_cons_zero, List.getElem_cons_succ]
        go_simp
        have E7 : Hid (ElB (World.alloc V1 (.cells #[.int .i64 0, .int .i64 0] 37)) V1.heap.size El.zr) := hik (ElB.zero V1)
        have lq : W0.heap.size ≤ V1.heap.size := KW.out.size
        replace KW : Hid (Chg nob W0 (World.alloc V1 (.cells #[.int .i64 0, .int .i64 0] 37))) := hik (KW.out.alloc _)
        generalize hUA : (World.alloc V1 (.cells #[.int .i64 0, .int .i64 0] 37)) = UA at E7 KW ⊢
        clear hUA
        obtain ⟨gA, hgA⟩ : ∃ g, g = V1.heap.size := ⟨_, rfl⟩
        have lA : W0.heap.size ≤ gA := by rw [hgA]; exact lq
        clear lq
        rw [← hgA] at E7 ⊢
        clear hgA
        refine hK.out _ _ (SA.out _ KW.out) (fun hHeld => ?_)
        clear hK K
        try simp only [Act.put, List.setIfInBounds_toArray, List.set_cons_zero, List.set_cons_succ, List.getElem_toArray, List.getElem_cons_zero, List.getElem_cons_succ]
        refine wpAnyH_ready (rs := [5]) (by kernel_rfl) (by simp) ?_
        refine AllReadyH.cons rfl (fun K hK => ?_) AllReadyH.nil
        refine stepL_callN 20 #[.tmp 20] #[36] (by rfl) (by rfl) #[.agg #[.int .i64 a3, .int .i64 b3]] (by simp only [List.map_toArray, List.map_cons, List.map_nil] <;> rfl) (run_go Try.func20 (by kernel_rfl) (by kernel_rfl) _ _) (toExt_any a3 b3 _) ?_
        rintro e V2 ⟨he, kk⟩
        replace E7 := hik (E7.out.keep kk)
        refine ⟨_, he, ?_⟩
        replace KW := hik (KW.out.trans kk)
        refine hK.out _ _ (SA.out _ KW.out) (fun hHeld => ?_)
        clear hK K
        try simp only [Act.put, List.setIfInBounds_toArray, List.set_cons_zero, List.set_cons_succ, List.getElem_toArray, List.getElem_cons_zero, List.getElem_cons_succ]
        clear he kk
        refine wpAnyH_ready (rs := [7]) (by kernel_rfl) (by simp) ?_
        refine AllReadyH.cons rfl (fun K hK => ?_) AllReadyH.nil
        refine stepL_callN 20 #[.tmp 22] #[36] (by rfl) (by rfl) #[.agg #[.int .i64 a4, .int .i64 b4]] (by simp only [List.map_toArray, List.map_cons, List.map_nil] <;> rfl) (run_go Try.func20 (by kernel_rfl) (by kernel_rfl) _ _) (toExt_any a4 b4 _) ?_
        rintro e V3 ⟨he, kk⟩
        replace E7 := hik (E7.out.keep kk)
        refine ⟨_, he, ?_⟩
        replace KW := hik (KW.out.trans kk)
        refine hK.out _ _ (SA.out _ KW.out) (fun hHeld => ?_)
        clear hK K
        try simp only [Act.put, List.setIfInBounds_toArray, List.set_cons_zero, List.set_cons_succ, List.getElem_toArray, List.getElem_cons_zero, List.getElem_cons_succ]
        clear he kk
        refine wpAnyH_ready (rs := [8]) (by kernel_rfl) (by simp) ?_
        refine AllReadyH.cons rfl (fun K hK => ?_) AllReadyH.nil
        refine stepL_callN 19 #[.tmp 16, .tmp 17, .tmp 19, .tmp 21, .tmp 23] #[3, 3, 37, 37, 37] (by rfl) (by rfl) #[.int .i64 a0, .int .i64 a1, .agg #[.int .i64 a2, .int .i64 b2], .agg #[.int .i64 a3, .int .i64 b3], .agg #[.int .i64 a4, .int .i64 b4]] (by simp only [List.map_toArray, List.map_cons, List.map_nil] <;> rfl) (run_go Try.func19 (by kernel_rfl) (by kernel_rfl) _ _) (HS.out _) ?_
        rintro e V4 ⟨he, kk⟩
        replace E7 := hik (E7.out.keep kk)
        refine ⟨_, he, ?_⟩
        replace KW := hik (KW.out.trans kk)
        refine hK.out _ _ (SA.out _ KW.out) (fun hHeld => ?_)
        clear hK K
        try simp only [Act.put, List.setIfInBounds_toArray, List.set_cons_zero, List.set_cons_succ, List.getElem_toArray, List.getElem_cons_zero, List.getElem_cons_succ]
        clear he kk
        refine wpAnyH_take (i := 9) (v := ?_) rfl (by kernel_rfl) (by kernel_rfl) (by kernel_rfl) (fun _ _ _ h => h) (Or.inl ⟨by rfl, ?_⟩) (by assumption) ?_
        rotate_left 1
        · (intro w' hSw; (try dsimp only at hSw); go_simp; try with_reducible rfl)
        try simp only [Act.put, List.setIfInBounds_toArray, List.set_cons_zero, List.set_cons_succ, List.getElem_toArray, List.getElem_cons_zero, List.getElem_cons_succ]
        refine wpAnyH_take (i := 10) (v := ?_) rfl (by kernel_rfl) (by kernel_rfl) (by kernel_rfl) (fun _ _ _ h => h) (Or.inl ⟨by rfl, ?_⟩) (by assumption) ?_
        rotate_left 1
        · (intro w' hSw; (try dsimp only at hSw); go_simp; try with_reducible rfl)
        try simp only [Act.put, List.setIfInBounds_toArray, List.set_cons_zero, List.set_cons_succ, List.getElem_toArray, List.getElem_cons_zero, List.getElem_cons_succ]
        refine wpAnyH_take (i := 11) (v := ?_) rfl (by kernel_rfl) (by kernel_rfl) (by kernel_rfl) (fun _ _ _ h => h) (Or.inl ⟨by rfl, ?_⟩) (by assumption) ?_
        rotate_left 1
        · (intro w' hSw; (try dsimp only at hSw); go_simp; try with_reducible rfl)
        try simp only [Act.put, List.setIfInBounds_toArray, List.set_cons_zero, List.set_cons_succ, List.getElem_toArray, List.getElem_cons_zero, List.getElem_cons_succ]
        refine wpAnyH_ready (rs := [13]) (by kernel_rfl) (by simp) ?_
        refine AllReadyH.cons rfl (fun K hK => ?_) AllReadyH.nil
        have y0 := E7.out.c0
        have y1 := E7.out.c1
        have f0 := E7.out.fz 0
        have f1 := E7.out.fz 1
        have l7 := E7.out.lt
        have SS := SA.out _ KW.out
        simp only [List.getElem_toArray, List.getElem_cons_zero, List.getElem_cons_succ]
        go_simp
        refine hK.out _ _ ⟨look_two (by omega) (SS.1) 0 1 _ _, look_two (by omega) (SS.2.1) 0 1 _ _, look_two (by omega) (SS.2.2.1) 0 1 _ _, look_two (by omega) (SS.2.2.2.1) 0 1 _ _, look_two (by omega) (SS.2.2.2.2.1) 0 1 _ _, look_two (by omega) (SS.2.2.2.2.2) 0 1 _ _⟩ (fun hHeld => ?_)
        clear hK K
        try simp only [Act.put, List.setIfInBounds_toArray, List.set_cons_zero, List.set_cons_succ, List.getElem_toArray, List.getElem_cons_zero, List.getElem_cons_succ]
        clear y0 y1 f0 f1 l7 SS
        replace E7 := hik (E7.out.set X)
        replace KW := hik (chg2_at KW.out gA (fun l => absurd l (by omega)) 0 1 (.int .i64 X.v.1) (.int .i64 X.v.2))
        generalize hUS : ((V4.setCell ⟨gA, 0, none⟩ (.int .i64 X.v.1)).setCell ⟨gA, 1, none⟩ (.int .i64 X.v.2)) = US at E7 KW hHeld ⊢
        clear hUS
        refine wpAnyH_take (i := 14) (v := ?_) rfl (by kernel_rfl) (by kernel_rfl) (by kernel_rfl) (fun _ _ _ h => h) (Or.inl ⟨by rfl, ?_⟩) (by assumption) ?_
        rotate_left 1
        · (intro w' hSw; (try dsimp only at hSw); go_simp; try with_reducible rfl)
        try simp only [Act.put, List.setIfInBounds_toArray, List.set_cons_zero, List.set_cons_succ, List.getElem_toArray, List.getElem_cons_zero, List.getElem_cons_succ]
        refine wpAnyH_done (by kernel_rfl) ?_ _
        go_wp2_with fail
        go_meet
        case rel => exact ⟨gA, rfl, rfl, E7, KW⟩
    · refine AllReadyH.cons rfl (fun K hK => ?_) AllReadyH.nil
      simp only [List.getElem_toArray, List.getElem_cons_zero, List.getElem_cons_succ]
      go_simp
      have E7 : Hid (ElB (World.alloc W0 (.cells #[.int .i64 0, .int .i64 0] 37)).drew W0.heap.size El.zr) := hik (ElB.keep (ElB.zero W0) (Chg.refl nob _).drew1)
      have lq : W0.heap.size ≤ W0.heap.size := Nat.le_refl _
      replace KW : Hid (Chg nob W0 (World.alloc W0 (.cells #[.int .i64 0, .int .i64 0] 37)).drew) := hik (((Chg.refl nob W0).alloc _).drew1)
      generalize hUA : (World.alloc W0 (.cells #[.int .i64 0, .int .i64 0] 37)).drew = UA at E7 KW ⊢
      clear hUA
      obtain ⟨gA, hgA⟩ : ∃ g, g = W0.heap.size := ⟨_, rfl⟩
      have lA : W0.heap.size ≤ gA := by rw [hgA]; exact lq
      clear lq
      rw [← hgA] at E7 ⊢
      clear hgA
      refine hK.out _ _ (SA.out _ KW.out) (fun hHeld => ?_)
      clear hK K
      try simp only [Act.put, List.setIfInBounds_toArray, List.set_cons_zero, List.set_cons_succ, List.getElem_toArray, List.getElem_cons_zero, List.getElem_cons_succ]
      refine wpAnyH_ready (rs := [3]) (by kernel_rfl) (by simp) ?_
      refine AllReadyH.cons rfl (fun K hK => ?_) AllReadyH.nil
      refine stepL_callN 20 #[.tmp 18] #[36] (by rfl) (by rfl) #[.agg #[.int .i64 a2, .int .i64 b2]] (by simp only [List.map_toArray, List.map_cons, List.map_nil] <;> rfl) (run_go Try.func20 (by kernel_rfl) (by kernel_rfl) _ _) (toExt_any a2 b2 _) ?_
      rintro e V1 ⟨he, kk⟩
      replace E7 := hik (E7.out.keep kk)
      refine ⟨_, he, ?_⟩
      replace KW := hik (KW.out.trans kk)
      refine hK.out _ _ (SA.out _ KW.out) (fun hHeld => ?_)
      clear hK K
      try simp only [Act.put, List.setIfInBounds_toArray, List.set_cons_zero, List.set_cons_succ, List.getElem_toArray, List.getElem_cons_zero, List.getElem_cons_succ]
      clear he kk
      refine wpAnyH_ready (rs := [5]) (by kernel_rfl) (by simp) ?_
      refine AllReadyH.cons rfl (fun K hK => ?_) AllReadyH.nil
      refine stepL_callN 20 #[.tmp 20] #[36] (by rfl) (by rfl) #[.agg #[.int .i64 a3, .int .i64 b3]] (by simp only [List.map_toArray, List.map_cons, List.map_nil] <;> rfl) (run_go Try.func20 (by kernel_rfl) (by kernel_rfl) _ _) (toExt_any a3 b3 _) ?_
      rintro e V2 ⟨he, kk⟩
      replace E7 := hik (E7.out.keep kk)
      refine ⟨_, he, ?_⟩
      replace KW := hik (KW.out.trans kk)
      refine hK.out _ _ (SA.out _ KW.out) (fun hHeld => ?_)
      clear hK K
      try simp only [Act.put, List.setIfInBounds_toArray, List.set_cons_zero, List.set_cons_succ, List.getElem_toArray, List.getElem_cons_zero, List.getElem_cons_succ]
      clear he kk
      refine wpAnyH_ready (rs := [7]) (by kernel_rfl) (by simp) ?_
      refine AllReadyH.cons rfl (fun K hK => ?_) AllReadyH.nil
      refine stepL_callN 20 #[.tmp 22] #[36] (by rfl) (by rfl) #[.agg #[.int .i64 a4, .int .i64 b4]] (by simp only [List.map_toArray, List.map_cons, List.map_nil] <;> rfl) (run_go Try.func20 (by kernel_rfl) (by kernel_rfl) _ _) (toExt_any a4 b4 _) ?_
      rintro e V3 ⟨he, kk⟩
      replace E7 := hik (E7.out.keep kk)
      refine ⟨_, he, ?_⟩
      replace KW := hik (KW.out.trans kk)
      refine hK.out _ _ (SA.out _ KW.out) (fun hHeld => ?_)
      clear hK K
      try simp only [Act.put, List.setIfInBounds_toArray, List.set_cons_zero, List.set_cons_succ, List.getElem_toArray, List.getElem_cons_zero, List.getElem_cons_succ]
      clear he kk
      refine wpAnyH_ready (rs := [8]) (by kernel_rfl) (by simp) ?_
      refine AllReadyH.cons rfl (fun K hK => ?_) AllReadyH.nil
      refine stepL_callN 19 #[.tmp 16, .tmp 17, .tmp 19, .tmp 21, .tmp 23] #[3, 3, 37, 37, 37] (by rfl) (by rfl) #[.int .i64 a0, .int .i64 a1, .agg #[.int .i64 a2, .int .i64 b2], .agg #[.int .i64 a3, .int .i64 b3], .agg #[.int .i64 a4, .int .i64 b4]] (by simp only [List.map_toArray, List.map_cons, List.map_nil] <;> rfl) (run_go Try.func19 (by kernel_rfl) (by kernel_rfl) _ _) (HS.out _) ?_
      rintro e V4 ⟨he, kk⟩
      replace E7 := hik (E7.out.keep kk)
      refine ⟨_, he, ?_⟩
      replace KW := hik (KW.out.trans kk)
      refine hK.out _ _ (SA.out _ KW.out) (fun hHeld => ?_)
      clear hK K
      try simp only [Act.put, List.setIfInBounds_toArray, List.set_cons_zero, List.set_cons_succ, List.getElem_toArray, List.getElem_cons_zero, List.getElem_cons_succ]
      clear he kk
      refine wpAnyH_take (i := 9) (v := ?_) rfl (by kernel_rfl) (by kernel_rfl) (by kernel_rfl) (fun _ _ _ h => h) (Or.inl ⟨by rfl, ?_⟩) (by assumption) ?_
      rotate_left 1
      · (intro w' hSw; (try dsimp only at hSw); go_simp; try with_reducible rfl)
      try simp only [Act.put, List.setIfInBounds_toArray, List.set_cons_zero, List.set_cons_succ, List.getElem_toArray, List.getElem_cons_zero, List.getElem_cons_succ]
      refine wpAnyH_take (i := 10) (v := ?_) rfl (by kernel_rfl) (by kernel_rfl) (by kernel_rfl) (fun _ _ _ h => h) (Or.inl ⟨by rfl, ?_⟩) (by assumption) ?_
      rotate_left 1
      · (intro w' hSw; (try dsimp only at hSw); go_simp; try with_reducible rfl)
      try simp only [Act.put, List.setIfInBounds_toArray, List.set_cons_zero, List.set_cons_succ, List.getElem_toArray, List.getElem_cons_zero, List.getElem_cons_succ]
      refine wpAnyH_take (i := 11) (v := ?_) rfl (by kernel_rfl) (by kernel_rfl) (by kernel_rfl) (fun _ _ _ h => h) (Or.inl ⟨by rfl, ?_⟩) (by assumption) ?_
      rotate_left 1
      · (intro w' hSw; (try dsimp only at hSw); go_simp; try with_reducible rfl)
      try simp only [Act.put, List.setIfInBounds_toArray, List.set_cons_zero, List.set_cons_succ, List.getElem_toArray, List.getElem_cons_zero, List.getElem_cons_succ]
      refine wpAnyH_ready (rs := [13]) (by kernel_rfl) (by simp) ?_
      refine AllReadyH.cons rfl (fun K hK => ?_) AllReadyH.nil
      have y0 := E7.out.c0
      have y1 := E7.out.c1
      have f0 := E7.out.fz 0
      have f1 := E7.out.fz 1
      have l7 := E7.out.lt
      have SS := SA.out _ KW.out
      simp only [List.getElem_toArray, List.getElem_cons_zero, List.getElem_cons_succ]
      go_simp
      refine hK.out _ _ ⟨look_two (by omega) (SS.1) 0 1 _ _, look_two (by omega) (SS.2.1) 0 1 _ _, look_two (by omega) (SS.2.2.1) 0 1 _ _, look_two (by omega) (SS.2.2.2.1) 0 1 _ _, look_two (by omega) (SS.2.2.2.2.1) 0 1 _ _, look_two (by omega) (SS.2.2.2.2.2) 0 1 _ _⟩ (fun hHeld => ?_)
      clear hK K
      try simp only [Act.put, List.setIfInBounds_toArray, List.set_cons_zero, List.set_cons_succ, List.getElem_toArray, List.getElem_cons_zero, List.getElem_cons_succ]
      clear y0 y1 f0 f1 l7 SS
      replace E7 := hik (E7.out.set X)
      replace KW := hik (chg2_at KW.out gA (fun l => absurd l (by omega)) 0 1 (.int .i64 X.v.1) (.int .i64 X.v.2))
      generalize hUS : ((V4.setCell ⟨gA, 0, none⟩ (.int .i64 X.v.1)).setCell ⟨gA, 1, none⟩ (.int .i64 X.v.2)) = US at E7 KW hHeld ⊢
      clear hUS
      refine wpAnyH_take (i := 14) (v := ?_) rfl (by kernel_rfl) (by kernel_rfl) (by kernel_rfl) (fun _ _ _ h => h) (Or.inl ⟨by rfl, ?_⟩) (by assumption) ?_
      rotate_left 1
      · (intro w' hSw; (try dsimp only at hSw); go_simp; try with_reducible rfl)
      try simp only [Act.put, List.setIfInBounds_toArray, List.set_cons_zero, List.set_cons_succ, List.getElem_toArray, List.getElem_cons_zero, List.getElem_cons_succ]
      refine wpAnyH_done (by kernel_rfl) ?_ _
      go_wp2_with fail
      go_meet
      case rel => exact ⟨gA, rfl, rfl, E7, KW⟩
  case rest =>
    obtain ⟨g1, rfl, rfl, HE1, HG1⟩ := hcut
    rename World => W1
    replace z0 := HG1.out.see z0
    replace z1 := HG1.out.see z1
    replace z2 := HG1.out.see z2
    replace z3 := HG1.out.see z3
    replace z4 := HG1.out.see z4
    replace z5 := HG1.out.see z5
    have hl1 : w.heap.size + 1 + 1 < W1.heap.size := Nat.lt_of_lt_of_le hl0 HG1.out.size
    go_upto_region 2 with fail
    go_cut [13, 14] from 15 (fun p c W => ∃ gg : Nat, p = .pointer (some ⟨gg, 0, none⟩) ∧ c = .int .i64 C ∧ Hid (ElB W gg X) ∧ Hid (Chg nob W1 W))
    case first =>
      have KW := hik ((Chg.refl nob W1).drew1)
      have SA := hik (fun (WW : World) (kW : Chg nob W1 WW) => (show (WW.cell? ⟨w.heap.size, 0, none⟩ = some (.int .i64 a2) ∧ WW.cell? ⟨w.heap.size, 1, none⟩ = some (.int .i64 b2) ∧ WW.cell? ⟨(w.heap.size + 1), 0, none⟩ = some (.int .i64 a3) ∧ WW.cell? ⟨(w.heap.size + 1), 1, none⟩ = some (.int .i64 b3) ∧ WW.cell? ⟨(w.heap.size + 1 + 1), 0, none⟩ = some (.int .i64 a4) ∧ WW.cell? ⟨(w.heap.size + 1 + 1), 1, none⟩ = some (.int .i64 b4)) from ⟨kW.see z0, kW.see z1, kW.see z2, kW.see z3, kW.see z4, kW.see z5⟩))
      refine wp_region_held_drew (S := fun w' => w'.cell? ⟨w.heap.size, 0, none⟩ = some (.int .i64 a2) ∧ w'.cell? ⟨w.heap.size, 1, none⟩ = some (.int .i64 b2) ∧ w'.cell? ⟨(w.heap.size + 1), 0, none⟩ = some (.int .i64 a3) ∧ w'.cell? ⟨(w.heap.size + 1), 1, none⟩ = some (.int .i64 b3) ∧ w'.cell? ⟨(w.heap.size + 1 + 1), 0, none⟩ = some (.int .i64 a4) ∧ w'.cell? ⟨(w.heap.size + 1 + 1), 1, none⟩ = some (.int .i64 b4)) (by kernel_rfl) ⟨z0, z1, z2, z3, z4, z5⟩ (fun hHeld => ?_)
      refine wpAnyH_take (i := 0) (v := ?_) rfl (by kernel_rfl) (by kernel_rfl) (by kernel_rfl) (fun _ _ _ h => h) (Or.inl ⟨by rfl, ?_⟩) (by assumption) ?_
      rotate_left 1
      · (intro w' hSw; (try dsimp only at hSw); go_simp; try with_reducible rfl)
      try simp only [Act.put, List.setIfInBounds_toArray, List.set_cons_zero, List.set_cons_succ, List.getElem_toArray, List.getElem_cons_zero, List.getElem_cons_succ]
      refine wpAnyH_take (i := 1) (v := ?_) rfl (by kernel_rfl) (by kernel_rfl) (by kernel_rfl) (fun _ _ _ h => h) (Or.inl ⟨by rfl, ?_⟩) (by assumption) ?_
      rotate_left 1
      · (intro w' hSw; (try dsimp only at hSw); go_simp; try with_reducible rfl)
      try simp only [Act.put, List.setIfInBounds_toArray, List.set_cons_zero, List.set_cons_succ, List.getElem_toArray, List.getElem_cons_zero, List.getElem_cons_succ]
      refine wpAnyH_take (i := 2) (v := ?_) rfl (by kernel_rfl) (by kernel_rfl) (by kernel_rfl) (fun _ _ _ h => h) (Or.inl ⟨by rfl, ?_⟩) (by assumption) ?_
      rotate_left 1
      · (intro w' hSw; (try dsimp only at hSw); go_simp; try with_reducible rfl)
      try simp only [Act.put, List.setIfInBounds_toArray, List.set_cons_zero, List.set_cons_succ, List.getElem_toArray, List.getElem_cons_zero, List.getElem_cons_succ]
      refine wpAnyH_take (i := 4) (v := ?_) rfl (by kernel_rfl) (by kernel_rfl) (by kernel_rfl) (fun _ _ _ h => h) (Or.inl ⟨by rfl, ?_⟩) (by assumption) ?_
      rotate_left 1
      · (intro w' hSw; (try dsimp only at hSw); go_simp; try with_reducible rfl)
      try simp only [Act.put, List.setIfInBounds_toArray, List.set_cons_zero, List.set_cons_succ, List.getElem_toArray, List.getElem_cons_zero, List.getElem_cons_succ]
      refine wpAnyH_take (i := 6) (v := ?_) rfl (by kernel_rfl) (by kernel_rfl) (by kernel_rfl) (fun _ _ _ h => h) (Or.inl ⟨by rfl, ?_⟩) (by assumption) ?_
      rotate_left 1
      · (intro w' hSw; (try dsimp only at hSw); go_simp; try with_reducible rfl)
      try simp only [Act.put, List.setIfInBounds_toArray, List.set_cons_zero, List.set_cons_succ, List.getElem_toArray, List.getElem_cons_zero, List.getElem_cons_succ]
      refine wpAnyH_ready (rs := [3, 12]) (by kernel_rfl) (by simp) ?_
      refine AllReadyH.cons rfl (fun K hK => ?_) ?_
      · refine stepL_callN 20 #[.tmp 30] #[36] (by rfl) (by rfl) #[.agg #[.int .i64 a2, .int .i64 b2]] (by simp only [List.map_toArray, List.map_cons, List.map_nil] <;> rfl) (run_go Try.func20 (by kernel_rfl) (by kernel_rfl) _ _) (toExt_any a2 b2 _) ?_
        rintro e U1 ⟨he, kk⟩
        refine ⟨_, he, ?_⟩
        replace KW := hik (KW.out.trans kk)
        refine hK.out _ _ (SA.out _ KW.out) (fun hHeld => ?_)
        clear hK K
        try simp only [Act.put, List.setIfInBounds_toArray, List.set_cons_zero, List.set_cons_succ, List.getElem_toArray, List.getElem_cons_zero, List.getElem_cons_succ]
        clear he kk
        refine wpAnyH_ready (rs := [5, 12]) (by kernel_rfl) (by simp) ?_
        refine AllReadyH.cons rfl (fun K hK => ?_) ?_
        · refine stepL_callN 20 #[.tmp 32] #[36] (by rfl) (by rfl) #[.agg #[.int .i64 a3, .int .i64 b3]] (by simp only [List.map_toArray, List.map_cons, List.map_nil] <;> rfl) (run_go Try.func20 (by kernel_rfl) (by kernel_rfl) _ _) (toExt_any a3 b3 _) ?_
          rintro e U2 ⟨he, kk⟩
          refine ⟨_, he, ?_⟩
          replace KW := hik (KW.out.trans kk)
          refine hK.out _ _ (SA.out _ KW.out) (fun hHeld => ?_)
          clear hK K
          try simp only [Act.put, List.setIfInBounds_toArray, List.set_cons_zero, List.set_cons_succ, List.getElem_toArray, List.getElem_cons_zero, List.getElem_cons_succ]
          clear he kk
          refine wpAnyH_ready (rs := [7, 12]) (by kernel_rfl) (by simp) ?_
          refine AllReadyH.cons rfl (fun K hK => ?_) ?_
          · refine stepL_callN 20 #[.tmp 34] #[36] (by rfl) (by rfl) #[.agg #[.int .i64 a4, .int .i64 b4]] (by simp only [List.map_toArray, List.map_cons, List.map_nil] <;> rfl) (run_go Try.func20 (by kernel_rfl) (by kernel_rfl) _ _) (toExt_any a4 b4 _) ?_
            rintro e U3 ⟨he, kk⟩
            refine ⟨_, he, ?_⟩
            replace KW := hik (KW.out.trans kk)
            refine hK.out _ _ (SA.out _ KW.out) (fun hHeld => ?_)
            clear hK K
            try simp only [Act.put, List.setIfInBounds_toArray, List.set_cons_zero, List.set_cons_succ, List.getElem_toArray, List.getElem_cons_zero, List.getElem_cons_succ]
            clear he kk
            refine wpAnyH_ready (rs := [8, 12]) (by kernel_rfl) (by simp) ?_
            refine AllReadyH.cons rfl (fun K hK => ?_) ?_
            · refine stepL_callN 21 #[.tmp 28, .tmp 29, .tmp 31, .tmp 33, .tmp 35] #[3, 3, 37, 37, 37] (by rfl) (by rfl) #[.int .i64 a0, .int .i64 a1, .agg #[.int .i64 a2, .int .i64 b2], .agg #[.int .i64 a3, .int .i64 b3], .agg #[.int .i64 a4, .int .i64 b4]] (by simp only [List.map_toArray, List.map_cons, List.map_nil] <;> rfl) (run_go Try.func21 (by kernel_rfl) (by kernel_rfl) _ _) (HI.out _) ?_
              rintro e U4 ⟨he, kk⟩
              refine ⟨_, he, ?_⟩
              replace KW := hik (KW.out.trans kk)
              refine hK.out _ _ (SA.out _ KW.out) (fun hHeld => ?_)
              clear hK K
              try simp only [Act.put, List.setIfInBounds_toArray, List.set_cons_zero, List.set_cons_succ, List.getElem_toArray, List.getElem_cons_zero, List.getElem_cons_succ]
              clear he kk
              refine wpAnyH_take (i := 9) (v := ?_) rfl (by kernel_rfl) (by kernel_rfl) (by kernel_rfl) (fun _ _ _ h => h) (Or.inl ⟨by rfl, ?_⟩) (by assumption) ?_
              rotate_left 1
              · (intro w' hSw; (try dsimp only at hSw); go_simp; try with_reducible rfl)
              try simp only [Act.put, List.setIfInBounds_toArray, List.set_cons_zero, List.set_cons_succ, List.getElem_toArray, List.getElem_cons_zero, List.getElem_cons_succ]
              refine wpAnyH_take (i := 10) (v := ?_) rfl (by kernel_rfl) (by kernel_rfl) (by kernel_rfl) (fun _ _ _ h => h) (Or.inl ⟨by rfl, ?_⟩) (by assumption) ?_
              rotate_left 1
              · (intro w' hSw; (try dsimp only at hSw); go_simp; try with_reducible rfl)
              try simp only [Act.put, List.setIfInBounds_toArray, List.set_cons_zero, List.set_cons_succ, List.getElem_toArray, List.getElem_cons_zero, List.getElem_cons_succ]
              refine wpAnyH_take (i := 11) (v := ?_) rfl (by kernel_rfl) (by kernel_rfl) (by kernel_rfl) (fun _ _ _ h => h) (Or.inl ⟨by rfl, ?_⟩) (by assumption) ?_
              rotate_left 1
              · (intro w' hSw; (try dsimp only at hSw); go_simp; try with_reducible rfl)
              try simp only [Act.put, List.setIfInBounds_toArray, List.set_cons_zero, List.set_cons_succ, List.getElem_toArray, List.getElem_cons_zero, List.getElem_cons_succ]
              refine wpAnyH_ready (rs := [12]) (by kernel_rfl) (by simp) ?_
              refine AllReadyH.cons rfl (fun K hK => ?_) AllReadyH.nil
              simp only [List.getElem_toArray, List.getElem_cons_zero, List.getElem_cons_succ]
              go_simp
              have E7 : Hid (ElB (World.alloc U4 (.cells #[.int .i64 0, .int .i64 0] 37)) U4.heap.size El.zr) := hik (ElB.zero U4)
              have lq : W1.heap.size ≤ U4.heap.size := KW.out.size
              replace KW : Hid (Chg nob W1 (World.alloc U4 (.cells #[.int .i64 0, .int .i64 0] 37))) := hik (KW.out.alloc _)
              generalize hUA : (World.alloc U4 (.cells #[.int .i64 0, .int .i64 0] 37)) = UA at E7 KW ⊢
              clear hUA
              obtain ⟨gA, hgA⟩ : ∃ g, g = U4.heap.size := ⟨_, rfl⟩
              have lA : W1.heap.size ≤ gA := by rw [hgA]; exact lq
              clear lq
              rw [← hgA] at E7 ⊢
              clear hgA
              refine hK.out _ _ (SA.out _ KW.out) (fun hHeld => ?_)
              clear hK K
              try simp only [Act.put, List.setIfInBounds_toArray, List.set_cons_zero, List.set_cons_succ, List.getElem_toArray, List.getElem_cons_zero, List.getElem_cons_succ]
              refine wpAnyH_ready (rs := [13]) (by kernel_rfl) (by simp) ?_
              refine AllReadyH.cons rfl (fun K hK => ?_) AllReadyH.nil
              have y0 := E7.out.c0
              have y1 := E7.out.c1
              have f0 := E7.out.fz 0
              have f1 := E7.out.fz 1
              have l7 := E7.out.lt
              have SS := SA.out _ KW.out
              simp only [List.getElem_toArray, List.getElem_cons_zero, List.getElem_cons_succ]
              go_simp
              refine hK.out _ _ ⟨look_two (by omega) (SS.1) 0 1 _ _, look_two (by omega) (SS.2.1) 0 1 _ _, look_two (by omega) (SS.2.2.1) 0 1 _ _, look_two (by omega) (SS.2.2.2.1) 0 1 _ _, look_two (by omega) (SS.2.2.2.2.1) 0 1 _ _, look_two (by omega) (SS.2.2.2.2.2) 0 1 _ _⟩ (fun hHeld => ?_)
              clear hK K
              try simp only [Act.put, List.setIfInBounds_toArray, List.set_cons_zero, List.set_cons_succ, List.getElem_toArray, List.getElem_cons_zero, List.getElem_cons_succ]
              clear y0 y1 f0 f1 l7 SS
              replace E7 := hik (E7.out.set X)
              replace KW := hik (chg2_at KW.out gA (fun l => absurd l (by omega)) 0 1 (.int .i64 X.v.1) (.int .i64 X.v.2))
              generalize hUS : ((UA.setCell ⟨gA, 0, none⟩ (.int .i64 X.v.1)).setCell ⟨gA, 1, none⟩ (.int .i64 X.v.2)) = US at E7 KW hHeld ⊢
              clear hUS
              refine wpAnyH_take (i := 14) (v := ?_) rfl (by kernel_rfl) (by kernel_rfl) (by kernel_rfl) (fun _ _ _ h => h) (Or.inl ⟨by rfl, ?_⟩) (by assumption) ?_
              rotate_left 1
              · (intro w' hSw; (try dsimp only at hSw); go_simp; try with_reducible rfl)
              try simp only [Act.put, List.setIfInBounds_toArray, List.set_cons_zero, List.set_cons_succ, List.getElem_toArray, List.getElem_cons_zero, List.getElem_cons_succ]
              refine wpAnyH_done (by kernel_rfl) ?_ _
              go_wp2_with fail
              go_meet
              case rel => exact ⟨gA, rfl, rfl, E7, KW⟩
            · refine AllReadyH.cons rfl (fun K hK => ?_) AllReadyH.nil
              simp only [List.getElem_toArray, List.getElem_cons_zero, List.getElem_cons_succ]
              go_simp
              have E7 : Hid (ElB (World.alloc U3 (.cells #[.int .i64 0, .int .i64 0] 37)) U3.heap.size El.zr) := hik (ElB.zero U3)
              have lq : W1.heap.size ≤ U3.heap.size := KW.out.size
              replace KW : Hid (Chg nob W1 (World.alloc U3 (.cells #[.int .i64 0, .int .i64 0] 37))) := hik (KW.out.alloc _)
              generalize hUA : (World.alloc U3 (.cells #[.int .i64 0, .int .i64 0] 37)) = UA at E7 KW ⊢
              clear hUA
              obtain ⟨gA, hgA⟩ : ∃ g, g = U3.heap.size := ⟨_, rfl⟩
              have lA : W1.heap.size ≤ gA := by rw [hgA]; exact lq
              clear lq
              rw [← hgA] at E7 ⊢
              clear hgA
              refine hK.out _ _ (SA.out _ KW.out) (fun hHeld => ?_)
              clear hK K
              try simp only [Act.put, List.setIfInBounds_toArray, List.set_cons_zero, List.set_cons_succ, List.getElem_toArray, List.getElem_cons_zero, List.getElem_cons_succ]
              refine wpAnyH_ready (rs := [8]) (by kernel_rfl) (by simp) ?_
              refine AllReadyH.cons rfl (fun K hK => ?_) AllReadyH.nil
              refine stepL_callN 21 #[.tmp 28, .tmp 29, .tmp 31, .tmp 33, .tmp 35] #[3, 3, 37, 37, 37] (by rfl) (by rfl) #[.int .i64 a0, .int .i64 a1, .agg #[.int .i64 a2, .int .i64 b2], .agg #[.int .i64 a3, .int .i64 b3], .agg #[.int .i64 a4, .int .i64 b4]] (by simp only [List.map_toArray, List.map_cons, List.map_nil] <;> rfl) (run_go Try.func21 (by kernel_rfl) (by kernel_rfl) _ _) (HI.out _) ?_
              rintro e U4 ⟨he, kk⟩
              replace E7 := hik (E7.out.keep kk)
              refine ⟨_, he, ?_⟩
              replace KW := hik (KW.out.trans kk)
              refine hK.out _ _ (SA.out _ KW.out) (fun hHeld => ?_)
              clear hK K
              try simp only [Act.put, List.setIfInBounds_toArray, List.set_cons_zero, List.set_cons_succ, List.getElem_toArray, List.getElem_cons_zero, List.getElem_cons_succ]
              clear he kk
              refine wpAnyH_take (i := 9) (v := ?_) rfl (by kernel_rfl) (by kernel_rfl) (by kernel_rfl) (fun _ _ _ h => h) (Or.inl ⟨by rfl, ?_⟩) (by assumption) ?_
              rotate_left 1
              · (intro w' hSw; (try dsimp only at hSw); go_simp; try with_reducible rfl)
              try simp only [Act.put, List.setIfInBounds_toArray, List.set_cons_zero, List.set_cons_succ, List.getElem_toArray, List.getElem_cons_zero, List.getElem_cons_succ]
              refine wpAnyH_take (i := 10) (v := ?_) rfl (by kernel_rfl) (by kernel_rfl) (by kernel_rfl) (fun _ _ _ h => h) (Or.inl ⟨by rfl, ?_⟩) (by assumption) ?_
              rotate_left 1
              · (intro w' hSw; (try dsimp only at hSw); go_simp; try with_reducible rfl)
              try simp only [Act.put, List.setIfInBounds_toArray, List.set_cons_zero, List.set_cons_succ, List.getElem_toArray, List.getElem_cons_zero, List.getElem_cons_succ]
              refine wpAnyH_take (i := 11) (v := ?_) rfl (by kernel_rfl) (by kernel_rfl) (by kernel_rfl) (fun _ _ _ h => h) (Or.inl ⟨by rfl, ?_⟩) (by assumption) ?_
              rotate_left 1
              · (intro w' hSw; (try dsimp only at hSw); go_simp; try with_reducible rfl)
              try simp only [Act.put, List.setIfInBounds_toArray, List.set_cons_zero, List.set_cons_succ, List.getElem_toArray, List.getElem_cons_zero, List.getElem_cons_succ]
              refine wpAnyH_ready (rs := [13]) (by kernel_rfl) (by simp) ?_
              refine AllReadyH.cons rfl (fun K hK => ?_) AllReadyH.nil
              have y0 := E7.out.c0
              have y1 := E7.out.c1
              have f0 := E7.out.fz 0
              have f1 := E7.out.fz 1
              have l7 := E7.out.lt
              have SS := SA.out _ KW.out
              simp only [List.getElem_toArray, List.getElem_cons_zero, List.getElem_cons_succ]
              go_simp
              refine hK.out _ _ ⟨look_two (by omega) (SS.1) 0 1 _ _, look_two (by omega) (SS.2.1) 0 1 _ _, look_two (by omega) (SS.2.2.1) 0 1 _ _, look_two (by omega) (SS.2.2.2.1) 0 1 _ _, look_two (by omega) (SS.2.2.2.2.1) 0 1 _ _, look_two (by omega) (SS.2.2.2.2.2) 0 1 _ _⟩ (fun hHeld => ?_)
              clear hK K
              try simp only [Act.put, List.setIfInBounds_toArray, List.set_cons_zero, List.set_cons_succ, List.getElem_toArray, List.getElem_cons_zero, List.getElem_cons_succ]
              clear y0 y1 f0 f1 l7 SS
              replace E7 := hik (E7.out.set X)
              replace KW := hik (chg2_at KW.out gA (fun l => absurd l (by omega)) 0 1 (.int .i64 X.v.1) (.int .i64 X.v.2))
              generalize hUS : ((U4.setCell ⟨gA, 0, none⟩ (.int .i64 X.v.1)).setCell ⟨gA, 1, none⟩ (.int .i64 X.v.2)) = US at E7 KW hHeld ⊢
              clear hUS
              refine wpAnyH_take (i := 14) (v := ?_) rfl (by kernel_rfl) (by kernel_rfl) (by kernel_rfl) (fun _ _ _ h => h) (Or.inl ⟨by rfl, ?_⟩) (by assumption) ?_
              rotate_left 1
              · (intro w' hSw; (try dsimp only at hSw); go_simp; try with_reducible rfl)
              try simp only [Act.put, List.setIfInBounds_toArray, List.set_cons_zero, List.set_cons_succ, List.getElem_toArray, List.getElem_cons_zero, List.getElem_cons_succ]
              refine wpAnyH_done (by kernel_rfl) ?_ _
              go_wp2_with fail
              go_meet
              case rel => exact ⟨gA, rfl, rfl, E7, KW⟩
          · refine AllReadyH.cons rfl (fun K hK => ?_) AllReadyH.nil
            simp only [List.getElem_toArray, List.getElem_cons_zero, List.getElem_cons_succ]
            go_simp
            have E7 : Hid (ElB (World.alloc U2 (.cells #[.int .i64 0, .int .i64 0] 37)) U2.heap.size El.zr) := hik (ElB.zero U2)
            have lq : W1.heap.size ≤ U2.heap.size := KW.out.size
            replace KW : Hid (Chg nob W1 (World.alloc U2 (.cells #[.int .i64 0, .int .i64 0] 37))) := hik (KW.out.alloc _)
            generalize hUA : (World.alloc U2 (.cells #[.int .i64 0, .int .i64 0] 37)) = UA at E7 KW ⊢
            clear hUA
            obtain ⟨gA, hgA⟩ : ∃ g, g = U2.heap.size := ⟨_, rfl⟩
            have lA : W1.heap.size ≤ gA := by rw [hgA]; exact lq
            clear lq
            rw [← hgA] at E7 ⊢
            clear hgA
            refine hK.out _ _ (SA.out _ KW.out) (fun hHeld => ?_)
            clear hK K
            try simp only [Act.put, List.setIfInBounds_toArray, List.set_cons_zero, List.set_cons_succ, List.getElem_toArray, List.getElem_cons_zero, List.getElem_cons_succ]
            refine wpAnyH_ready (rs := [7]) (by kernel_rfl) (by simp) ?_
            refine AllReadyH.cons rfl (fun K hK => ?_) AllReadyH.nil
            refine stepL_callN 20 #[.tmp 34] #[36] (by rfl) (by rfl) #[.agg #[.int .i64 a4, .int .i64 b4]] (by simp only [List.map_toArray, List.map_cons, List.map_nil] <;> rfl) (run_go Try.func20 (by kernel_rfl) (by kernel_rfl) _ _) (toExt_any a4 b4 _) ?_
            rintro e U3 ⟨he, kk⟩
            replace E7 := hik (E7.out.keep kk)
            refine ⟨_, he, ?_⟩
            replace KW := hik (KW.out.trans kk)
            refine hK.out _ _ (SA.out _ KW.out) (fun hHeld => ?_)
            clear hK K
            try simp only [Act.put, List.setIfInBounds_toArray, List.set_cons_zero, List.set_cons_succ, List.getElem_toArray, List.getElem_cons_zero, List.getElem_cons_succ]
            clear he kk
            refine wpAnyH_ready (rs := [8]) (by kernel_rfl) (by simp) ?_
            refine AllReadyH.cons rfl (fun K hK => ?_) AllReadyH.nil
            refine stepL_callN 21 #[.tmp 28, .tmp 29, .tmp 31, .tmp 33, .tmp 35] #[3, 3, 37, 37, 37] (by rfl) (by rfl) #[.int .i64 a0, .int .i64 a1, .agg #[.int .i64 a2, .int .i64 b2], .agg #[.int .i64 a3, .int .i64 b3], .agg #[.int .i64 a4, .int .i64 b4]] (by simp only [List.map_toArray, List.map_cons, List.map_nil] <;> rfl) (run_go Try.func21 (by kernel_rfl) (by kernel_rfl) _ _) (HI.out _) ?_
            rintro e U4 ⟨he, kk⟩
            replace E7 := hik (E7.out.keep kk)
            refine ⟨_, he, ?_⟩
            replace KW := hik (KW.out.trans kk)
            refine hK.out _ _ (SA.out _ KW.out) (fun hHeld => ?_)
            clear hK K
            try simp only [Act.put, List.setIfInBounds_toArray, List.set_cons_zero, List.set_cons_succ, List.getElem_toArray, List.getElem_cons_zero, List.getElem_cons_succ]
            clear he kk
            refine wpAnyH_take (i := 9) (v := ?_) rfl (by kernel_rfl) (by kernel_rfl) (by kernel_rfl) (fun _ _ _ h => h) (Or.inl ⟨by rfl, ?_⟩) (by assumption) ?_
            rotate_left 1
            · (intro w' hSw; (try dsimp only at hSw); go_simp; try with_reducible rfl)
            try simp only [Act.put, List.setIfInBounds_toArray, List.set_cons_zero, List.set_cons_succ, List.getElem_toArray, List.getElem_cons_zero, List.getElem_cons_succ]
            refine wpAnyH_take (i := 10) (v := ?_) rfl (by kernel_rfl) (by kernel_rfl) (by kernel_rfl) (fun _ _ _ h => h) (Or.inl ⟨by rfl, ?_⟩) (by assumption) ?_
            rotate_left 1
            · (intro w' hSw; (try dsimp only at hSw); go_simp; try with_reducible rfl)
            try simp only [Act.put, List.setIfInBounds_toArray, List.set_cons_zero, List.set_cons_succ, List.getElem_toArray, List.getElem_cons_zero, List.getElem_cons_succ]
            refine wpAnyH_take (i := 11) (v := ?_) rfl (by kernel_rfl) (by kernel_rfl) (by kernel_rfl) (fun _ _ _ h => h) (Or.inl ⟨by rfl, ?_⟩) (by assumption) ?_
            rotate_left 1
            · (intro w' hSw; (try dsimp only at hSw); go_simp; try with_reducible rfl)
            try simp only [Act.put, List.setIfInBounds_toArray, List.set_cons_zero, List.set_cons_succ, List.getElem_toArray, List.getElem_cons_zero, List.getElem_cons_succ]
            refine wpAnyH_ready (rs := [13]) (by kernel_rfl) (by simp) ?_
            refine AllReadyH.cons rfl (fun K hK => ?_) AllReadyH.nil
            have y0 := E7.out.c0
            have y1 := E7.out.c1
            have f0 := E7.out.fz 0
            have f1 := E7.out.fz 1
            have l7 := E7.out.lt
            have SS := SA.out _ KW.out
            simp only [List.getElem_toArray, List.getElem_cons_zero, List.getElem_cons_succ]
            go_simp
            refine hK.out _ _ ⟨look_two (by omega) (SS.1) 0 1 _ _, look_two (by omega) (SS.2.1) 0 1 _ _, look_two (by omega) (SS.2.2.1) 0 1 _ _, look_two (by omega) (SS.2.2.2.1) 0 1 _ _, look_two (by omega) (SS.2.2.2.2.1) 0 1 _ _, look_two (by omega) (SS.2.2.2.2.2) 0 1 _ _⟩ (fun hHeld => ?_)
            clear hK K
            try simp only [Act.put, List.setIfInBounds_toArray, List.set_cons_zero, List.set_cons_succ, List.getElem_toArray, List.getElem_cons_zero, List.getElem_cons_succ]
            clear y0 y1 f0 f1 l7 SS
            replace E7 := hik (E7.out.set X)
            replace KW := hik (chg2_at KW.out gA (fun l => absurd l (by omega)) 0 1 (.int .i64 X.v.1) (.int .i64 X.v.2))
            generalize hUS : ((U4.setCell ⟨gA, 0, none⟩ (.int .i64 X.v.1)).setCell ⟨gA, 1, none⟩ (.int .i64 X.v.2)) = US at E7 KW hHeld ⊢
            clear hUS
            refine wpAnyH_take (i := 14) (v := ?_) rfl (by kernel_rfl) (by kernel_rfl) (by kernel_rfl) (fun _ _ _ h => h) (Or.inl ⟨by rfl, ?_⟩) (by assumption) ?_
            rotate_left 1
            · (intro w' hSw; (try dsimp only at hSw); go_simp; try with_reducible rfl)
            try simp only [Act.put, List.setIfInBounds_toArray, List.set_cons_zero, List.set_cons_succ, List.getElem_toArray, List.getElem_cons_zero, List.getElem_cons_succ]
            refine wpAnyH_done (by kernel_rfl) ?_ _
            go_wp2_with fail
            go_meet
            case rel => exact ⟨gA, rfl, rfl, E7, KW⟩
        · refine AllReadyH.cons rfl (fun K hK => ?_) AllReadyH.nil
          simp only [List.getElem_toArray, List.getElem_cons_zero, List.getElem_cons_succ]
          go_simp
          have E7 : Hid (ElB (World.alloc U1 (.cells #[.int .i64 0, .int .i64 0] 37)) U1.heap.size El.zr) := hik (ElB.zero U1)
          have lq : W1.heap.size ≤ U1.heap.size := KW.out.size
          replace KW : Hid (Chg nob W1 (World.alloc U1 (.cells #[.int .i64 0, .int .i64 0] 37))) := hik (KW.out.alloc _)
          generalize hUA : (World.alloc U1 (.cells #[.int .i64 0, .int .i64 0] 37)) = UA at E7 KW ⊢
          clear hUA
          obtain ⟨gA, hgA⟩ : ∃ g, g = U1.heap.size := ⟨_, rfl⟩
          have lA : W1.heap.size ≤ gA := by rw [hgA]; exact lq
          clear lq
          rw [← hgA] at E7 ⊢
          clear hgA
          refine hK.out _ _ (SA.out _ KW.out) (fun hHeld => ?_)
          clear hK K
          try simp only [Act.put, List.setIfInBounds_toArray, List.set_cons_zero, List.set_cons_succ, List.getElem_toArray, List.getElem_cons_zero, List.getElem_cons_succ]
          refine wpAnyH_ready (rs := [5]) (by kernel_rfl) (by simp) ?_
          refine AllReadyH.cons rfl (fun K hK => ?_) AllReadyH.nil
          refine stepL_callN 20 #[.tmp 32] #[36] (by rfl) (by rfl) #[.agg #[.int .i64 a3, .int .i64 b3]] (by simp only [List.map_toArray, List.map_cons, List.map_nil] <;> rfl) (run_go Try.func20 (by kernel_rfl) (by kernel_rfl) _ _) (toExt_any a3 b3 _) ?_
          rintro e U2 ⟨he, kk⟩
          replace E7 := hik (E7.out.keep kk)
          refine ⟨_, he, ?_⟩
          replace KW := hik (KW.out.trans kk)
          refine hK.out _ _ (SA.out _ KW.out) (fun hHeld => ?_)
          clear hK K
          try simp only [Act.put, List.setIfInBounds_toArray, List.set_cons_zero, List.set_cons_succ, List.getElem_toArray, List.getElem_cons_zero, List.getElem_cons_succ]
          clear he kk
          refine wpAnyH_ready (rs := [7]) (by kernel_rfl) (by simp) ?_
          refine AllReadyH.cons rfl (fun K hK => ?_) AllReadyH.nil
          refine stepL_callN 20 #[.tmp 34] #[36] (by rfl) (by rfl) #[.agg #[.int .i64 a4, .int .i64 b4]] (by simp only [List.map_toArray, List.map_cons, List.map_nil] <;> rfl) (run_go Try.func20 (by kernel_rfl) (by kernel_rfl) _ _) (toExt_any a4 b4 _) ?_
          rintro e U3 ⟨he, kk⟩
          replace E7 := hik (E7.out.keep kk)
          refine ⟨_, he, ?_⟩
          replace KW := hik (KW.out.trans kk)
          refine hK.out _ _ (SA.out _ KW.out) (fun hHeld => ?_)
          clear hK K
          try simp only [Act.put, List.setIfInBounds_toArray, List.set_cons_zero, List.set_cons_succ, List.getElem_toArray, List.getElem_cons_zero, List.getElem_cons_succ]
          clear he kk
          refine wpAnyH_ready (rs := [8]) (by kernel_rfl) (by simp) ?_
          refine AllReadyH.cons rfl (fun K hK => ?_) AllReadyH.nil
          refine stepL_callN 21 #[.tmp 28, .tmp 29, .tmp 31, .tmp 33, .tmp 35] #[3, 3, 37, 37, 37] (by rfl) (by rfl) #[.int .i64 a0, .int .i64 a1, .agg #[.int .i64 a2, .int .i64 b2], .agg #[.int .i64 a3, .int .i64 b3], .agg #[.int .i64 a4, .int .i64 b4]] (by simp only [List.map_toArray, List.map_cons, List.map_nil] <;> rfl) (run_go Try.func21 (by kernel_rfl) (by kernel_rfl) _ _) (HI.out _) ?_
          rintro e U4 ⟨he, kk⟩
          replace E7 := hik (E7.out.keep kk)
          refine ⟨_, he, ?_⟩
          replace KW := hik (KW.out.trans kk)
          refine hK.out _ _ (SA.out _ KW.out) (fun hHeld => ?_)
          clear hK K
          try simp only [Act.put, List.setIfInBounds_toArray, List.set_cons_zero, List.set_cons_succ, List.getElem_toArray, List.getElem_cons_zero, List.getElem_cons_succ]
          clear he kk
          refine wpAnyH_take (i := 9) (v := ?_) rfl (by kernel_rfl) (by kernel_rfl) (by kernel_rfl) (fun _ _ _ h => h) (Or.inl ⟨by rfl, ?_⟩) (by assumption) ?_
          rotate_left 1
          · (intro w' hSw; (try dsimp only at hSw); go_simp; try with_reducible rfl)
          try simp only [Act.put, List.setIfInBounds_toArray, List.set_cons_zero, List.set_cons_succ, List.getElem_toArray, List.getElem_cons_zero, List.getElem_cons_succ]
          refine wpAnyH_take (i := 10) (v := ?_) rfl (by kernel_rfl) (by kernel_rfl) (by kernel_rfl) (fun _ _ _ h => h) (Or.inl ⟨by rfl, ?_⟩) (by assumption) ?_
          rotate_left 1
          · (intro w' hSw; (try dsimp only at hSw); go_simp; try with_reducible rfl)
          try simp only [Act.put, List.setIfInBounds_toArray, List.set_cons_zero, List.set_cons_succ, List.getElem_toArray, List.getElem_cons_zero, List.getElem_cons_succ]
          refine wpAnyH_take (i := 11) (v := ?_) rfl (by kernel_rfl) (by kernel_rfl) (by kernel_rfl) (fun _ _ _ h => h) (Or.inl ⟨by rfl, ?_⟩) (by assumption) ?_
          rotate_left 1
          · (intro w' hSw; (try dsimp only at hSw); go_simp; try with_reducible rfl)
          try simp only [Act.put, List.setIfInBounds_toArray, List.set_cons_zero, List.set_cons_succ, List.getElem_toArray, List.getElem_cons_zero, List.getElem_cons_succ]
          refine wpAnyH_ready (rs := [13]) (by kernel_rfl) (by simp) ?_
          refine AllReadyH.cons rfl (fun K hK => ?_) AllReadyH.nil
          have y0 := E7.out.c0
          have y1 := E7.out.c1
          have f0 := E7.out.fz 0
          have f1 := E7.out.fz 1
          have l7 := E7.out.lt
          have SS := SA.out _ KW.out
          simp only [List.getElem_toArray, List.getElem_cons_zero, List.getElem_cons_succ]
          go_simp
          refine hK.out _ _ ⟨look_two (by omega) (SS.1) 0 1 _ _, look_two (by omega) (SS.2.1) 0 1 _ _, look_two (by omega) (SS.2.2.1) 0 1 _ _, look_two (by omega) (SS.2.2.2.1) 0 1 _ _, look_two (by omega) (SS.2.2.2.2.1) 0 1 _ _, look_two (by omega) (SS.2.2.2.2.2) 0 1 _ _⟩ (fun hHeld => ?_)
          clear hK K
          try simp only [Act.put, List.setIfInBounds_toArray, List.set_cons_zero, List.set_cons_succ, List.getElem_toArray, List.getElem_cons_zero, List.getElem_cons_succ]
          clear y0 y1 f0 f1 l7 SS
          replace E7 := hik (E7.out.set X)
          replace KW := hik (chg2_at KW.out gA (fun l => absurd l (by omega)) 0 1 (.int .i64 X.v.1) (.int .i64 X.v.2))
          generalize hUS : ((U4.setCell ⟨gA, 0, none⟩ (.int .i64 X.v.1)).setCell ⟨gA, 1, none⟩ (.int .i64 X.v.2)) = US at E7 KW hHeld ⊢
          clear hUS
          refine wpAnyH_take (i := 14) (v := ?_) rfl (by kernel_rfl) (by kernel_rfl) (by kernel_rfl) (fun _ _ _ h => h) (Or.inl ⟨by rfl, ?_⟩) (by assumption) ?_
          rotate_left 1
          · (intro w' hSw; (try dsimp only at hSw); go_simp; try with_reducible rfl)
          try simp only [Act.put, List.setIfInBounds_toArray, List.set_cons_zero, List.set_cons_succ, List.getElem_toArray, List.getElem_cons_zero, List.getElem_cons_succ]
          refine wpAnyH_done (by kernel_rfl) ?_ _
          go_wp2_with fail
          go_meet
          case rel => exact ⟨gA, rfl, rfl, E7, KW⟩
      · refine AllReadyH.cons rfl (fun K hK => ?_) AllReadyH.nil
        simp only [List.getElem_toArray, List.getElem_cons_zero, List.getElem_cons_succ]
        go_simp
        have E7 : Hid (ElB (World.alloc W1 (.cells #[.int .i64 0, .int .i64 0] 37)).drew W1.heap.size El.zr) := hik (ElB.keep (ElB.zero W1) (Chg.refl nob _).drew1)
        have lq : W1.heap.size ≤ W1.heap.size := Nat.le_refl _
        replace KW : Hid (Chg nob W1 (World.alloc W1 (.cells #[.int .i64 0, .int .i64 0] 37)).drew) := hik (((Chg.refl nob W1).alloc _).drew1)
        generalize hUA : (World.alloc W1 (.cells #[.int .i64 0, .int .i64 0] 37)).drew = UA at E7 KW ⊢
        clear hUA
        obtain ⟨gA, hgA⟩ : ∃ g, g = W1.heap.size := ⟨_, rfl⟩
        have lA : W1.heap.size ≤ gA := by rw [hgA]; exact lq
        clear lq
        rw [← hgA] at E7 ⊢
        clear hgA
        refine hK.out _ _ (SA.out _ KW.out) (fun hHeld => ?_)
        clear hK K
        try simp only [Act.put, List.setIfInBounds_toArray, List.set_cons_zero, List.set_cons_succ, List.getElem_toArray, List.getElem_cons_zero, List.getElem_cons_succ]
        refine wpAnyH_ready (rs := [3]) (by kernel_rfl) (by simp) ?_
        refine AllReadyH.cons rfl (fun K hK => ?_) AllReadyH.nil
        refine stepL_callN 20 #[.tmp 30] #[36] (by rfl) (by rfl) #[.agg #[.int .i64 a2, .int .i64 b2]] (by simp only [List.map_toArray, List.map_cons, List.map_nil] <;> rfl) (run_go Try.func20 (by kernel_rfl) (by kernel_rfl) _ _) (toExt_any a2 b2 _) ?_
        rintro e U1 ⟨he, kk⟩
        replace E7 := hik (E7.out.keep kk)
        refine ⟨_, he, ?_⟩
        replace KW := hik (KW.out.trans kk)
        refine hK.out _ _ (SA.out _ KW.out) (fun hHeld => ?_)
        clear hK K
        try simp only [Act.put, List.setIfInBounds_toArray, List.set_cons_zero, List.set_cons_succ, List.getElem_toArray, List.getElem_cons_zero, List.getElem_cons_succ]
        clear he kk
        refine wpAnyH_ready (rs := [5]) (by kernel_rfl) (by simp) ?_
        refine AllReadyH.cons rfl (fun K hK => ?_) AllReadyH.nil
        refine stepL_callN 20 #[.tmp 32] #[36] (by rfl) (by rfl) #[.agg #[.int .i64 a3, .int .i64 b3]] (by simp only [List.map_toArray, List.map_cons, List.map_nil] <;> rfl) (run_go Try.func20 (by kernel_rfl) (by kernel_rfl) _ _) (toExt_any a3 b3 _) ?_
        rintro e U2 ⟨he, kk⟩
        replace E7 := hik (E7.out.keep kk)
        refine ⟨_, he, ?_⟩
        replace KW := hik (KW.out.trans kk)
        refine hK.out _ _ (SA.out _ KW.out) (fun hHeld => ?_)
        clear hK K
        try simp only [Act.put, List.setIfInBounds_toArray, List.set_cons_zero, List.set_cons_succ, List.getElem_toArray, List.getElem_cons_zero, List.getElem_cons_succ]
        clear he kk
        refine wpAnyH_ready (rs := [7]) (by kernel_rfl) (by simp) ?_
        refine AllReadyH.cons rfl (fun K hK => ?_) AllReadyH.nil
        refine stepL_callN 20 #[.tmp 34] #[36] (by rfl) (by rfl) #[.agg #[.int .i64 a4, .int .i64 b4]] (by simp only [List.map_toArray, List.map_cons, List.map_nil] <;> rfl) (run_go Try.func20 (by kernel_rfl) (by kernel_rfl) _ _) (toExt_any a4 b4 _) ?_
        rintro e U3 ⟨he, kk⟩
        replace E7 := hik (E7.out.keep kk)
        refine ⟨_, he, ?_⟩
        replace KW := hik (KW.out.trans kk)
        refine hK.out _ _ (SA.out _ KW.out) (fun hHeld => ?_)
        clear hK K
        try simp only [Act.put, List.setIfInBounds_toArray, List.set_cons_zero, List.set_cons_succ, List.getElem_toArray, List.getElem_cons_zero, List.getElem_cons_succ]
        clear he kk
        refine wpAnyH_ready (rs := [8]) (by kernel_rfl) (by simp) ?_
        refine AllReadyH.cons rfl (fun K hK => ?_) AllReadyH.nil
        refine stepL_callN 21 #[.tmp 28, .tmp 29, .tmp 31, .tmp 33, .tmp 35] #[3, 3, 37, 37, 37] (by rfl) (by rfl) #[.int .i64 a0, .int .i64 a1, .agg #[.int .i64 a2, .int .i64 b2], .agg #[.int .i64 a3, .int .i64 b3], .agg #[.int .i64 a4, .int .i64 b4]] (by simp only [List.map_toArray, List.map_cons, List.map_nil] <;> rfl) (run_go Try.func21 (by kernel_rfl) (by kernel_rfl) _ _) (HI.out _) ?_
        rintro e U4 ⟨he, kk⟩
        replace E7 := hik (E7.out.keep kk)
        refine ⟨_, he, ?_⟩
        replace KW := hik (KW.out.trans kk)
        refine hK.out _ _ (SA.out _ KW.out) (fun hHeld => ?_)
        clear hK K
        try simp only [Act.put, List.setIfInBounds_toArray, List.set_cons_zero, List.set_cons_succ, List.getElem_toArray, List.getElem_cons_zero, List.getElem_cons_succ]
        clear he kk
        refine wpAnyH_take (i := 9) (v := ?_) rfl (by kernel_rfl) (by kernel_rfl) (by kernel_rfl) (fun _ _ _ h => h) (Or.inl ⟨by rfl, ?_⟩) (by assumption) ?_
        rotate_left 1
        · (intro w' hSw; (try dsimp only at hSw); go_simp; try with_reducible rfl)
        try simp only [Act.put, List.setIfInBounds_toArray, List.set_cons_zero, List.set_cons_succ, List.getElem_toArray, List.getElem_cons_zero, List.getElem_cons_succ]
        refine wpAnyH_take (i := 10) (v := ?_) rfl (by kernel_rfl) (by kernel_rfl) (by kernel_rfl) (fun _ _ _ h => h) (Or.inl ⟨by rfl, ?_⟩) (by assumption) ?_
        rotate_left 1
        · (intro w' hSw; (try dsimp only at hSw); go_simp; try with_reducible rfl)
        try simp only [Act.put, List.setIfInBounds_toArray, List.set_cons_zero, List.set_cons_succ, List.getElem_toArray, List.getElem_cons_zero, List.getElem_cons_succ]
        refine wpAnyH_take (i := 11) (v := ?_) rfl (by kernel_rfl) (by kernel_rfl) (by kernel_rfl) (fun _ _ _ h => h) (Or.inl ⟨by rfl, ?_⟩) (by assumption) ?_
        rotate_left 1
        · (intro w' hSw; (try dsimp only at hSw); go_simp; try with_reducible rfl)
        try simp only [Act.put, List.setIfInBounds_toArray, List.set_cons_zero, List.set_cons_succ, List.getElem_toArray, List.getElem_cons_zero, List.getElem_cons_succ]
        refine wpAnyH_ready (rs := [13]) (by kernel_rfl) (by simp) ?_
        refine AllReadyH.cons rfl (fun K hK => ?_) AllReadyH.nil
        have y0 := E7.out.c0
        have y1 := E7.out.c1
        have f0 := E7.out.fz 0
        have f1 := E7.out.fz 1
        have l7 := E7.out.lt
        have SS := SA.out _ KW.out
        simp only [List.getElem_toArray, List.getElem_cons_zero, List.getElem_cons_succ]
        go_simp
        refine hK.out _ _ ⟨look_two (by omega) (SS.1) 0 1 _ _, look_two (by omega) (SS.2.1) 0 1 _ _, look_two (by omega) (SS.2.2.1) 0 1 _ _, look_two (by omega) (SS.2.2.2.1) 0 1 _ _, look_two (by omega) (SS.2.2.2.2.1) 0 1 _ _, look_two (by omega) (SS.2.2.2.2.2) 0 1 _ _⟩ (fun hHeld => ?_)
        clear hK K
        try simp only [Act.put, List.setIfInBounds_toArray, List.set_cons_zero, List.set_cons_succ, List.getElem_toArray, List.getElem_cons_zero, List.getElem_cons_succ]
        clear y0 y1 f0 f1 l7 SS
        replace E7 := hik (E7.out.set X)
        replace KW := hik (chg2_at KW.out gA (fun l => absurd l (by omega)) 0 1 (.int .i64 X.v.1) (.int .i64 X.v.2))
        generalize hUS : ((U4.setCell ⟨gA, 0, none⟩ (.int .i64 X.v.1)).setCell ⟨gA, 1, none⟩ (.int .i64 X.v.2)) = US at E7 KW hHeld ⊢
        clear hUS
        refine wpAnyH_take (i := 14) (v := ?_) rfl (by kernel_rfl) (by kernel_rfl) (by kernel_rfl) (fun _ _ _ h => h) (Or.inl ⟨by rfl, ?_⟩) (by assumption) ?_
        rotate_left 1
        · (intro w' hSw; (try dsimp only at hSw); go_simp; try with_reducible rfl)
        try simp only [Act.put, List.setIfInBounds_toArray, List.set_cons_zero, List.set_cons_succ, List.getElem_toArray, List.getElem_cons_zero, List.getElem_cons_succ]
        refine wpAnyH_done (by kernel_rfl) ?_ _
        go_wp2_with fail
        go_meet
        case rel => exact ⟨gA, rfl, rfl, E7, KW⟩
    case rest =>
      obtain ⟨g2, rfl, rfl, HE2, HG2⟩ := hcut
      rename World => W2
      have E1 := hik (HE1.out.keep HG2.out)
      have x0 := E1.out.c0
      have x1 := E1.out.c1
      have y0 := HE2.out.c0
      have y1 := HE2.out.c1
      go_wp2_with fail
      refine (eqExt_any X.v.1 X.v.2 _).mono ?_
      rintro e W5 ⟨rfl, k5⟩
      go_wp2
      go_ret
      exact ⟨rfl, ((((G0.out.trans HG1.out).trans HG2.out)).trans k5).toBelow⟩

set_option maxRecDepth 100000 in
theorem lifted (os : Os) (started : os.Started) (H : Type) (enc : TypeId × Value → H) :
    ReturnsInHanded {} Try.checked os 6 .any (Rows.fnExactFoldPairSpec.pre6 enc Try.prog Try.f6 Rows.fnExactFoldPairRow.domain false) (Rows.fnExactFoldPairSpec.post enc Try.prog Try.f6 false true false false) := by
  refine returnsInHanded_of_change (C := Try.checked) own started (by kernel_rfl) Try.func6
    (ChangeSpec.witness6 (enc := enc) (C := Try.checked) false ⟨#[], #[.int .i64 0, .int .i64 0, .agg #[.int .i64 0, .int .i64 0], .agg #[.int .i64 0, .int .i64 0], .agg #[.int .i64 0, .int .i64 0]], []⟩ 8 (by kernel_rfl) (by kernel_rfl) (by kernel_rfl) (by kernel_rfl)) ?_
  intro W base args ds gs before hval0 hW hcnd _
  have hval : ∀ (j : Nat) t v, Try.f6.params[j]? = some t → args[j]? = some v → Value.okWide Try.prog W .any base t v := hval0
  have hW' := hW
  obtain ⟨p, q, hA0, hV, rfl, hfz, hnd⟩ := hW
  have hA : DataW.TrodAll enc Try.prog W 0 (fun _ => true) true Try.f6.params.toList args.toList ds p := hA0
  rw [Try.params6] at hA hval
  obtain ⟨v0, vs0, d0, ds0, p0, q0, hargs, rfl, rfl, h0, r0⟩ := trodAll_cons hA
  obtain ⟨v1, vs1, d1, ds1, p1, q1, rfl, rfl, rfl, h1, r1⟩ := trodAll_cons r0
  obtain ⟨v2, vs2, d2, ds2, p2, q2, rfl, rfl, rfl, h2, r2⟩ := trodAll_cons r1
  obtain ⟨v3, vs3, d3, ds3, p3, q3, rfl, rfl, rfl, h3, r3⟩ := trodAll_cons r2
  obtain ⟨v4, vs4, d4, ds4, p4, q4, rfl, rfl, rfl, h4, r4⟩ := trodAll_cons r3
  obtain ⟨rfl, rfl, rfl⟩ := trodAll_nil r4
  obtain rfl : args = #[v0, v1, v2, v3, v4] := by cases args; simp_all
  obtain ⟨rfl, rfl⟩ := trodVars_none hV
  have k0 := h0
  have lt0 : ∀ x ∈ p0, x.block < W.heap.size := by obtain ⟨m, hm⟩ := k0; exact DataW.trod_lt m _ _ _ hm
  obtain ⟨a0, rfl, rfl, rfl, wi0⟩ := open_int Try.underlying3 (hval 0 3 v0 rfl rfl) h0
  have k1 := h1
  have lt1 : ∀ x ∈ p1, x.block < W.heap.size := by obtain ⟨m, hm⟩ := k1; exact DataW.trod_lt m _ _ _ hm
  obtain ⟨a1, rfl, rfl, rfl, wi1⟩ := open_int Try.underlying3 (hval 1 3 v1 rfl rfl) h1
  have k2 := h2
  have lt2 : ∀ x ∈ p2, x.block < W.heap.size := by obtain ⟨m, hm⟩ := k2; exact DataW.trod_lt m _ _ _ hm
  obtain ⟨x2, z2, y2, u2, m2, rfl, rfl, rfl, hy2, hu2⟩ := open_agg2 Try.underlying36 (by kernel_rfl) cellsE (hval 2 36 v2 rfl rfl) h2
  obtain ⟨a2, e2, rfl, wa2⟩ := DataW.trod_int Try.underlying3 hy2
  obtain ⟨b2, e'2, rfl, wb2⟩ := DataW.trod_int Try.underlying3 hu2
  simp at e2 e'2
  subst e2 e'2
  have k3 := h3
  have lt3 : ∀ x ∈ p3, x.block < W.heap.size := by obtain ⟨m, hm⟩ := k3; exact DataW.trod_lt m _ _ _ hm
  obtain ⟨x3, z3, y3, u3, m3, rfl, rfl, rfl, hy3, hu3⟩ := open_agg2 Try.underlying36 (by kernel_rfl) cellsE (hval 3 36 v3 rfl rfl) h3
  obtain ⟨a3, e3, rfl, wa3⟩ := DataW.trod_int Try.underlying3 hy3
  obtain ⟨b3, e'3, rfl, wb3⟩ := DataW.trod_int Try.underlying3 hu3
  simp at e3 e'3
  subst e3 e'3
  have k4 := h4
  have lt4 : ∀ x ∈ p4, x.block < W.heap.size := by obtain ⟨m, hm⟩ := k4; exact DataW.trod_lt m _ _ _ hm
  obtain ⟨x4, z4, y4, u4, m4, rfl, rfl, rfl, hy4, hu4⟩ := open_agg2 Try.underlying36 (by kernel_rfl) cellsE (hval 4 36 v4 rfl rfl) h4
  obtain ⟨a4, e4, rfl, wa4⟩ := DataW.trod_int Try.underlying3 hy4
  obtain ⟨b4, e'4, rfl, wb4⟩ := DataW.trod_int Try.underlying3 hu4
  simp at e4 e'4
  subst e4 e'4
  clear hA0 hval0
  refine (walk a0 wi0 a1 wi1 a2 b2 a3 b3 a4 b4 W).mono fun e W' ⟨he, bel⟩ => ?_
  subst he
  exact ⟨_, rfl, _, _, _, [], _, [], hW', trodAll_mk1 (shut_bool Try.underlying4 _), (trodAll_cons_mk (Below.trod laidOut (by kernel_rfl) (of_decide_eq_true (by kernel_rfl)) k0 bel lt0) (trodAll_cons_mk (Below.trod laidOut (by kernel_rfl) (of_decide_eq_true (by kernel_rfl)) k1 bel lt1) (trodAll_cons_mk (Below.trod laidOut (by kernel_rfl) (of_decide_eq_true (by kernel_rfl)) k2 bel lt2) (trodAll_cons_mk (Below.trod laidOut (by kernel_rfl) (of_decide_eq_true (by kernel_rfl)) k3 bel lt3) (trodAll_cons_mk (Below.trod laidOut (by kernel_rfl) (of_decide_eq_true (by kernel_rfl)) k4 bel lt4) trodAll_mk0))))), rfl, bel.frame _, fun h => by cases h⟩

theorem over : Rows.fnExactFoldPairRow.holds Try.pinned (OpenSpec.ofChange Rows.fnExactFoldPairSpec) :=
  OpenClaim.holds_of_wide 6 Try.f6 rfl rfl rfl rfl rfl rfl rfl ⟨rfl, rfl, rfl, rfl, rfl⟩ rfl rfl rfl rfl rfl (by kernel_rfl) Try.func6 (by kernel_rfl)
    (of_decide_eq_true (by kernel_rfl)) (by unfold Func.isWrapper; first | (rw [if_pos (by decide +kernel)]; kernel_rfl) | (rw [if_neg (by decide +kernel)]; exact ⟨rfl, rfl⟩))
    (fun os started H enc _ => lifted os started H enc)

end Go.Proofs.Ytmcdkmohjmcjbap.fnExactFoldPair
namespace Go.Proofs.Ytmcdkmohjmcjbap
theorem FnExactFoldPair_holds : Rows.FnExactFoldPairSaid := fnExactFoldPair.over
#print axioms FnExactFoldPair_holds
end Go.Proofs.Ytmcdkmohjmcjbap
