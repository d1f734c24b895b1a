/- What the program's fold of two values answers: a contract. Conditions: elements of the greater field. -/
import Derived.Test.YtagjffjdoimhbadWrdX
import Derived.Deep.DeepCutAuto
namespace Go.Proofs.Ytagjffjdoimhbad
open Go.ChangeShapes Go.WideShapes Go.ChangeAt Go.RowKit
set_option linter.unusedVariables false
set_option maxRecDepth 100000
set_option linter.unusedSimpArgs false

theorem half_v1 : (El.inv (El.nb 2)).v.1 = 1065353217 := by rw [← half_el]
theorem half_v2 : (El.inv (El.nb 2)).v.2 = 0 := by rw [← half_el]
theorem ml_half (x : El) (w : World) : Calls Try.prog 24 #[.agg #[.int .i64 x.v.1, .int .i64 x.v.2], .agg #[.int .i64 1065353217, .int .i64 0]] w fun e w' => e = .returned (.agg #[.int .i64 (El.ml x (El.inv (El.nb 2))).v.1, .int .i64 (El.ml x (El.inv (El.nb 2))).v.2]) ∧ Chg nob w w' := by
  have h := ml_el x (El.inv (El.nb 2)) w
  rw [half_v1, half_v2] at h
  exact h

set_option maxHeartbeats 4000000 in
theorem fpr_any (a b r y : El) (w : World) : Calls Try.prog 23 #[.agg #[.int .i64 a.v.1, .int .i64 a.v.2], .agg #[.int .i64 b.v.1, .int .i64 b.v.2], .agg #[.int .i64 r.v.1, .int .i64 r.v.2], .agg #[.int .i64 (El.inv y).v.1, .int .i64 (El.inv y).v.2]] w fun e w' => e = .returned (.agg #[.int .i64 (El.fpr a b r y).v.1, .int .i64 (El.fpr a b r y).v.2]) ∧ Chg nob w w' := by
  rw [← fpr_way]
  obtain ⟨v, hv⟩ : ∃ v, v = El.inv y := ⟨_, rfl⟩
  rw [← hv]
  clear hv
  have EA := hik ((ElB.new w a).keep (((((Chg.refl nob _).alloc (.cells #[.int .i64 b.v.1, .int .i64 b.v.2] 28)).alloc (.cells #[.int .i64 r.v.1, .int .i64 r.v.2] 28)).alloc (.cells #[.int .i64 v.v.1, .int .i64 v.v.2] 28)).alloc (.cells #[.int .i64 0, .int .i64 0] 28)))
  have EB := hik ((ElB.new (w.alloc (.cells #[.int .i64 a.v.1, .int .i64 a.v.2] 28)) b).keep ((((Chg.refl nob _).alloc (.cells #[.int .i64 r.v.1, .int .i64 r.v.2] 28)).alloc (.cells #[.int .i64 v.v.1, .int .i64 v.v.2] 28)).alloc (.cells #[.int .i64 0, .int .i64 0] 28)))
  have ER := hik ((ElB.new ((w.alloc (.cells #[.int .i64 a.v.1, .int .i64 a.v.2] 28)).alloc (.cells #[.int .i64 b.v.1, .int .i64 b.v.2] 28)) r).keep (((Chg.refl nob _).alloc (.cells #[.int .i64 v.v.1, .int .i64 v.v.2] 28)).alloc (.cells #[.int .i64 0, .int .i64 0] 28)))
  have EV := hik ((ElB.new (((w.alloc (.cells #[.int .i64 a.v.1, .int .i64 a.v.2] 28)).alloc (.cells #[.int .i64 b.v.1, .int .i64 b.v.2] 28)).alloc (.cells #[.int .i64 r.v.1, .int .i64 r.v.2] 28)) v).keep ((Chg.refl nob _).alloc (.cells #[.int .i64 0, .int .i64 0] 28)))
  have EZ := hik (ElB.zero ((((w.alloc (.cells #[.int .i64 a.v.1, .int .i64 a.v.2] 28)).alloc (.cells #[.int .i64 b.v.1, .int .i64 b.v.2] 28)).alloc (.cells #[.int .i64 r.v.1, .int .i64 r.v.2] 28)).alloc (.cells #[.int .i64 v.v.1, .int .i64 v.v.2] 28)))
  have G0 := hik (show Chg nob w (((((w.alloc (.cells #[.int .i64 a.v.1, .int .i64 a.v.2] 28)).alloc (.cells #[.int .i64 b.v.1, .int .i64 b.v.2] 28)).alloc (.cells #[.int .i64 r.v.1, .int .i64 r.v.2] 28)).alloc (.cells #[.int .i64 v.v.1, .int .i64 v.v.2] 28)).alloc (.cells #[.int .i64 0, .int .i64 0] 28)) from ((((((Chg.refl nob _).alloc (.cells #[.int .i64 a.v.1, .int .i64 a.v.2] 28)).alloc (.cells #[.int .i64 b.v.1, .int .i64 b.v.2] 28)).alloc (.cells #[.int .i64 r.v.1, .int .i64 r.v.2] 28)).alloc (.cells #[.int .i64 v.v.1, .int .i64 v.v.2] 28)).alloc (.cells #[.int .i64 0, .int .i64 0] 28)))
  simp only [World.size_alloc] at EA EB ER EV EZ
  go_enter Try.func23, Try.ntmps23
  go_upto_region 1 with fail
  generalize hE : (((((w.alloc (.cells #[.int .i64 a.v.1, .int .i64 a.v.2] 28)).alloc (.cells #[.int .i64 b.v.1, .int .i64 b.v.2] 28)).alloc (.cells #[.int .i64 r.v.1, .int .i64 r.v.2] 28)).alloc (.cells #[.int .i64 v.v.1, .int .i64 v.v.2] 28)).alloc (.cells #[.int .i64 0, .int .i64 0] 28)) = W0 at EA EB ER EV EZ G0 ⊢
  clear hE
  have hl0 : w.heap.size + 1 + 1 + 1 + 1 < W0.heap.size := EZ.out.lt
  have a0 := EA.out.c0
  have a1 := EA.out.c1
  have b0 := EB.out.c0
  have b1 := EB.out.c1
  have v0 := EV.out.c0
  have v1 := EV.out.c1
  go_cut [9] (fun p W => ∃ g9 : Nat, p = .pointer (some ⟨g9, 0, none⟩) ∧ Hid (W0.heap.size ≤ g9) ∧ Hid (ElB W g9 (El.ml (El.sb a b) v)) ∧ Hid (Chg nob W0 W))
  case first =>
    have KW := hik ((Chg.refl nob W0).drew1)
    have SA := hik (fun (WW : World) (kW : Chg nob W0 WW) => (show (WW.cell? ⟨w.heap.size, 0, none⟩ = some (.int .i64 a.v.1) ∧ WW.cell? ⟨w.heap.size, 1, none⟩ = some (.int .i64 a.v.2) ∧ WW.cell? ⟨(w.heap.size + 1), 0, none⟩ = some (.int .i64 b.v.1) ∧ WW.cell? ⟨(w.heap.size + 1), 1, none⟩ = some (.int .i64 b.v.2) ∧ WW.cell? ⟨(w.heap.size + 1 + 1 + 1), 0, none⟩ = some (.int .i64 v.v.1) ∧ WW.cell? ⟨(w.heap.size + 1 + 1 + 1), 1, none⟩ = some (.int .i64 v.v.2)) from ⟨kW.see a0, kW.see a1, kW.see b0, kW.see b1, kW.see v0, kW.see v1⟩))
    refine wp_region_held_drew (S := fun w' => w'.cell? ⟨w.heap.size, 0, none⟩ = some (.int .i64 a.v.1) ∧ w'.cell? ⟨w.heap.size, 1, none⟩ = some (.int .i64 a.v.2) ∧ w'.cell? ⟨(w.heap.size + 1), 0, none⟩ = some (.int .i64 b.v.1) ∧ w'.cell? ⟨(w.heap.size + 1), 1, none⟩ = some (.int .i64 b.v.2) ∧ w'.cell? ⟨(w.heap.size + 1 + 1 + 1), 0, none⟩ = some (.int .i64 v.v.1) ∧ w'.cell? ⟨(w.heap.size + 1 + 1 + 1), 1, none⟩ = some (.int .i64 v.v.2)) (by kernel_rfl) ⟨a0, a1, b0, b1, v0, v1⟩ (fun hHeld => ?_)
    refine wpAnyH_take (i := 0) (v := ?_) rfl (by kernel_rfl) (by kernel_rfl) (by kernel_rfl) (fun _ _ _ h => h) (Or.inl ⟨by rfl, ?_⟩) (by assumption) ?_
    rotate_left 1
    · (intro w' hSw; (try dsimp only at hSw); go_simp; try with_reducible rfl)
    try simp only [Act.put, List.setIfInBounds_toArray, List.set_cons_zero, List.set_cons_succ, List.getElem_toArray, List.getElem_cons_zero, List.getElem_cons_succ]
    refine wpAnyH_take (i := 1) (v := ?_) rfl (by kernel_rfl) (by kernel_rfl) (by kernel_rfl) (fun _ _ _ h => h) (Or.inl ⟨by rfl, ?_⟩) (by assumption) ?_
    rotate_left 1
    · (intro w' hSw; (try dsimp only at hSw); go_simp; try with_reducible rfl)
    try simp only [Act.put, List.setIfInBounds_toArray, List.set_cons_zero, List.set_cons_succ, List.getElem_toArray, List.getElem_cons_zero, List.getElem_cons_succ]
    refine wpAnyH_take (i := 3) (v := ?_) rfl (by kernel_rfl) (by kernel_rfl) (by kernel_rfl) (fun _ _ _ h => h) (Or.inl ⟨by rfl, ?_⟩) (by assumption) ?_
    rotate_left 1
    · (intro w' hSw; (try dsimp only at hSw); go_simp; try with_reducible rfl)
    try simp only [Act.put, List.setIfInBounds_toArray, List.set_cons_zero, List.set_cons_succ, List.getElem_toArray, List.getElem_cons_zero, List.getElem_cons_succ]
    refine wpAnyH_ready (rs := [2, 5]) (by kernel_rfl) (by simp) ?_
    refine AllReadyH.cons rfl (fun K hK => ?_) ?_
    · refine stepL_callN 32 #[.tmp 10, .tmp 11] #[28, 28] (by rfl) (by rfl) #[.agg #[.int .i64 a.v.1, .int .i64 a.v.2], .agg #[.int .i64 b.v.1, .int .i64 b.v.2]] (by simp only [List.map_toArray, List.map_cons, List.map_nil] <;> rfl) (run_go Try.func32 (by kernel_rfl) (by kernel_rfl) _ _) (sb_el a b _) ?_
      rintro e U1 ⟨he, kk⟩
      refine ⟨_, he, ?_⟩
      replace KW := hik (KW.out.trans kk)
      refine hK.out _ _ (SA.out _ KW.out) (fun hHeld => ?_)
      clear hK K
      try simp only [Act.put, List.setIfInBounds_toArray, List.set_cons_zero, List.set_cons_succ, List.getElem_toArray, List.getElem_cons_zero, List.getElem_cons_succ]
      clear he kk
      refine wpAnyH_ready (rs := [4, 5]) (by kernel_rfl) (by simp) ?_
      refine AllReadyH.cons rfl (fun K hK => ?_) ?_
      · refine stepL_callN 24 #[.tmp 12, .tmp 13] #[28, 28] (by rfl) (by rfl) #[.agg #[.int .i64 (El.sb a b).v.1, .int .i64 (El.sb a b).v.2], .agg #[.int .i64 v.v.1, .int .i64 v.v.2]] (by simp only [List.map_toArray, List.map_cons, List.map_nil] <;> rfl) (run_go Try.func24 (by kernel_rfl) (by kernel_rfl) _ _) (ml_el (El.sb a b) v _) ?_
        rintro e U2 ⟨he, kk⟩
        refine ⟨_, he, ?_⟩
        replace KW := hik (KW.out.trans kk)
        refine hK.out _ _ (SA.out _ KW.out) (fun hHeld => ?_)
        clear hK K
        try simp only [Act.put, List.setIfInBounds_toArray, List.set_cons_zero, List.set_cons_succ, List.getElem_toArray, List.getElem_cons_zero, List.getElem_cons_succ]
        clear he kk
        refine wpAnyH_ready (rs := [5]) (by kernel_rfl) (by simp) ?_
        refine AllReadyH.cons rfl (fun K hK => ?_) AllReadyH.nil
        simp only [List.getElem_toArray, List.getElem_cons_zero, List.getElem_cons_succ]
        go_simp
        have E9 : Hid (ElB (World.alloc U2 (.cells #[.int .i64 0, .int .i64 0] 28)) U2.heap.size El.zr) := hik (ElB.zero U2)
        have lq : W0.heap.size ≤ U2.heap.size := KW.out.size
        replace KW : Hid (Chg nob W0 (World.alloc U2 (.cells #[.int .i64 0, .int .i64 0] 28))) := hik (KW.out.alloc _)
        generalize hUA : (World.alloc U2 (.cells #[.int .i64 0, .int .i64 0] 28)) = UA at E9 KW ⊢
        clear hUA
        obtain ⟨g9, hgA⟩ : ∃ g, g = U2.heap.size := ⟨_, rfl⟩
        have l9 : W0.heap.size ≤ g9 := by rw [hgA]; exact lq
        clear lq
        rw [← hgA] at E9 ⊢
        clear hgA
        refine hK.out _ _ (SA.out _ KW.out) (fun hHeld => ?_)
        clear hK K
        try simp only [Act.put, List.setIfInBounds_toArray, List.set_cons_zero, List.set_cons_succ, List.getElem_toArray, List.getElem_cons_zero, List.getElem_cons_succ]
        refine wpAnyH_ready (rs := [6]) (by kernel_rfl) (by simp) ?_
        refine AllReadyH.cons rfl (fun K hK => ?_) AllReadyH.nil
        have z0 := E9.out.c0
        have z1 := E9.out.c1
        have f0 := E9.out.fz 0
        have f1 := E9.out.fz 1
        have l7 := E9.out.lt
        have SS := SA.out _ KW.out
        simp only [List.getElem_toArray, List.getElem_cons_zero, List.getElem_cons_succ]
        go_simp
        refine hK.out _ _ ⟨look_two (by omega) (SS.1) 0 1 _ _, look_two (by omega) (SS.2.1) 0 1 _ _, look_two (by omega) (SS.2.2.1) 0 1 _ _, look_two (by omega) (SS.2.2.2.1) 0 1 _ _, look_two (by omega) (SS.2.2.2.2.1) 0 1 _ _, look_two (by omega) (SS.2.2.2.2.2) 0 1 _ _⟩ (fun hHeld => ?_)
        clear hK K
        try simp only [Act.put, List.setIfInBounds_toArray, List.set_cons_zero, List.set_cons_succ, List.getElem_toArray, List.getElem_cons_zero, List.getElem_cons_succ]
        clear z0 z1 f0 f1 l7 SS
        replace E9 := hik (E9.out.set (El.ml (El.sb a b) v))
        replace KW := hik (chg2_at KW.out g9 (fun l => absurd l (by omega)) 0 1 (.int .i64 (El.ml (El.sb a b) v).v.1) (.int .i64 (El.ml (El.sb a b) v).v.2))
        generalize hUS : ((UA.setCell ⟨g9, 0, none⟩ (.int .i64 (El.ml (El.sb a b) v).v.1)).setCell ⟨g9, 1, none⟩ (.int .i64 (El.ml (El.sb a b) v).v.2)) = US at E9 KW hHeld ⊢
        clear hUS
        refine wpAnyH_done (by kernel_rfl) ?_ _
        go_wp2_with fail
        go_meet
        exact ⟨g9, rfl, hik l9, E9, KW⟩
      · refine AllReadyH.cons rfl (fun K hK => ?_) AllReadyH.nil
        simp only [List.getElem_toArray, List.getElem_cons_zero, List.getElem_cons_succ]
        go_simp
        have E9 : Hid (ElB (World.alloc U1 (.cells #[.int .i64 0, .int .i64 0] 28)) U1.heap.size El.zr) := hik (ElB.zero U1)
        have lq : W0.heap.size ≤ U1.heap.size := KW.out.size
        replace KW : Hid (Chg nob W0 (World.alloc U1 (.cells #[.int .i64 0, .int .i64 0] 28))) := hik (KW.out.alloc _)
        generalize hUA : (World.alloc U1 (.cells #[.int .i64 0, .int .i64 0] 28)) = UA at E9 KW ⊢
        clear hUA
        obtain ⟨g9, hgA⟩ : ∃ g, g = U1.heap.size := ⟨_, rfl⟩
        have l9 : W0.heap.size ≤ g9 := by rw [hgA]; exact lq
        clear lq
        rw [← hgA] at E9 ⊢
        clear hgA
        refine hK.out _ _ (SA.out _ KW.out) (fun hHeld => ?_)
        clear hK K
        try simp only [Act.put, List.setIfInBounds_toArray, List.set_cons_zero, List.set_cons_succ, List.getElem_toArray, List.getElem_cons_zero, List.getElem_cons_succ]
        refine wpAnyH_ready (rs := [4]) (by kernel_rfl) (by simp) ?_
        refine AllReadyH.cons rfl (fun K hK => ?_) AllReadyH.nil
        refine stepL_callN 24 #[.tmp 12, .tmp 13] #[28, 28] (by rfl) (by rfl) #[.agg #[.int .i64 (El.sb a b).v.1, .int .i64 (El.sb a b).v.2], .agg #[.int .i64 v.v.1, .int .i64 v.v.2]] (by simp only [List.map_toArray, List.map_cons, List.map_nil] <;> rfl) (run_go Try.func24 (by kernel_rfl) (by kernel_rfl) _ _) (ml_el (El.sb a b) v _) ?_
        rintro e U2 ⟨he, kk⟩
        replace E9 := hik (E9.out.keep kk)
        refine ⟨_, he, ?_⟩
        replace KW := hik (KW.out.trans kk)
        refine hK.out _ _ (SA.out _ KW.out) (fun hHeld => ?_)
        clear hK K
        try simp only [Act.put, List.setIfInBounds_toArray, List.set_cons_zero, List.set_cons_succ, List.getElem_toArray, List.getElem_cons_zero, List.getElem_cons_succ]
        clear he kk
        refine wpAnyH_ready (rs := [6]) (by kernel_rfl) (by simp) ?_
        refine AllReadyH.cons rfl (fun K hK => ?_) AllReadyH.nil
        have z0 := E9.out.c0
        have z1 := E9.out.c1
        have f0 := E9.out.fz 0
        have f1 := E9.out.fz 1
        have l7 := E9.out.lt
        have SS := SA.out _ KW.out
        simp only [List.getElem_toArray, List.getElem_cons_zero, List.getElem_cons_succ]
        go_simp
        refine hK.out _ _ ⟨look_two (by omega) (SS.1) 0 1 _ _, look_two (by omega) (SS.2.1) 0 1 _ _, look_two (by omega) (SS.2.2.1) 0 1 _ _, look_two (by omega) (SS.2.2.2.1) 0 1 _ _, look_two (by omega) (SS.2.2.2.2.1) 0 1 _ _, look_two (by omega) (SS.2.2.2.2.2) 0 1 _ _⟩ (fun hHeld => ?_)
        clear hK K
        try simp only [Act.put, List.setIfInBounds_toArray, List.set_cons_zero, List.set_cons_succ, List.getElem_toArray, List.getElem_cons_zero, List.getElem_cons_succ]
        clear z0 z1 f0 f1 l7 SS
        replace E9 := hik (E9.out.set (El.ml (El.sb a b) v))
        replace KW := hik (chg2_at KW.out g9 (fun l => absurd l (by omega)) 0 1 (.int .i64 (El.ml (El.sb a b) v).v.1) (.int .i64 (El.ml (El.sb a b) v).v.2))
        generalize hUS : ((U2.setCell ⟨g9, 0, none⟩ (.int .i64 (El.ml (El.sb a b) v).v.1)).setCell ⟨g9, 1, none⟩ (.int .i64 (El.ml (El.sb a b) v).v.2)) = US at E9 KW hHeld ⊢
        clear hUS
        refine wpAnyH_done (by kernel_rfl) ?_ _
        go_wp2_with fail
        go_meet
        exact ⟨g9, rfl, hik l9, E9, KW⟩
    · refine AllReadyH.cons rfl (fun K hK => ?_) AllReadyH.nil
      simp only [List.getElem_toArray, List.getElem_cons_zero, List.getElem_cons_succ]
      go_simp
      have E9 : Hid (ElB (World.alloc W0 (.cells #[.int .i64 0, .int .i64 0] 28)).drew W0.heap.size El.zr) := hik (ElB.keep (ElB.zero W0) (Chg.refl nob _).drew1)
      have lq : W0.heap.size ≤ W0.heap.size := Nat.le_refl _
      replace KW : Hid (Chg nob W0 (World.alloc W0 (.cells #[.int .i64 0, .int .i64 0] 28)).drew) := hik (((Chg.refl nob W0).alloc _).drew1)
      generalize hUA : (World.alloc W0 (.cells #[.int .i64 0, .int .i64 0] 28)).drew = UA at E9 KW ⊢
      clear hUA
      obtain ⟨g9, hgA⟩ : ∃ g, g = W0.heap.size := ⟨_, rfl⟩
      have l9 : W0.heap.size ≤ g9 := by rw [hgA]; exact lq
      clear lq
      rw [← hgA] at E9 ⊢
      clear hgA
      refine hK.out _ _ (SA.out _ KW.out) (fun hHeld => ?_)
      clear hK K
      try simp only [Act.put, List.setIfInBounds_toArray, List.set_cons_zero, List.set_cons_succ, List.getElem_toArray, List.getElem_cons_zero, List.getElem_cons_succ]
      refine wpAnyH_ready (rs := [2]) (by kernel_rfl) (by simp) ?_
      refine AllReadyH.cons rfl (fun K hK => ?_) AllReadyH.nil
      refine stepL_callN 32 #[.tmp 10, .tmp 11] #[28, 28] (by rfl) (by rfl) #[.agg #[.int .i64 a.v.1, .int .i64 a.v.2], .agg #[.int .i64 b.v.1, .int .i64 b.v.2]] (by simp only [List.map_toArray, List.map_cons, List.map_nil] <;> rfl) (run_go Try.func32 (by kernel_rfl) (by kernel_rfl) _ _) (sb_el a b _) ?_
      rintro e U1 ⟨he, kk⟩
      replace E9 := hik (E9.out.keep kk)
      refine ⟨_, he, ?_⟩
      replace KW := hik (KW.out.trans kk)
      refine hK.out _ _ (SA.out _ KW.out) (fun hHeld => ?_)
      clear hK K
      try simp only [Act.put, List.setIfInBounds_toArray, List.set_cons_zero, List.set_cons_succ, List.getElem_toArray, List.getElem_cons_zero, List.getElem_cons_succ]
      clear he kk
      refine wpAnyH_ready (rs := [4]) (by kernel_rfl) (by simp) ?_
      refine AllReadyH.cons rfl (fun K hK => ?_) AllReadyH.nil
      refine stepL_callN 24 #[.tmp 12, .tmp 13] #[28, 28] (by rfl) (by rfl) #[.agg #[.int .i64 (El.sb a b).v.1, .int .i64 (El.sb a b).v.2], .agg #[.int .i64 v.v.1, .int .i64 v.v.2]] (by simp only [List.map_toArray, List.map_cons, List.map_nil] <;> rfl) (run_go Try.func24 (by kernel_rfl) (by kernel_rfl) _ _) (ml_el (El.sb a b) v _) ?_
      rintro e U2 ⟨he, kk⟩
      replace E9 := hik (E9.out.keep kk)
      refine ⟨_, he, ?_⟩
      replace KW := hik (KW.out.trans kk)
      refine hK.out _ _ (SA.out _ KW.out) (fun hHeld => ?_)
      clear hK K
      try simp only [Act.put, List.setIfInBounds_toArray, List.set_cons_zero, List.set_cons_succ, List.getElem_toArray, List.getElem_cons_zero, List.getElem_cons_succ]
      clear he kk
      refine wpAnyH_ready (rs := [6]) (by kernel_rfl) (by simp) ?_
      refine AllReadyH.cons rfl (fun K hK => ?_) AllReadyH.nil
      have z0 := E9.out.c0
      have z1 := E9.out.c1
      have f0 := E9.out.fz 0
      have f1 := E9.out.fz 1
      have l7 := E9.out.lt
      have SS := SA.out _ KW.out
      simp only [List.getElem_toArray, List.getElem_cons_zero, List.getElem_cons_succ]
      go_simp
      refine hK.out _ _ ⟨look_two (by omega) (SS.1) 0 1 _ _, look_two (by omega) (SS.2.1) 0 1 _ _, look_two (by omega) (SS.2.2.1) 0 1 _ _, look_two (by omega) (SS.2.2.2.1) 0 1 _ _, look_two (by omega) (SS.2.2.2.2.1) 0 1 _ _, look_two (by omega) (SS.2.2.2.2.2) 0 1 _ _⟩ (fun hHeld => ?_)
      clear hK K
      try simp only [Act.put, List.setIfInBounds_toArray, List.set_cons_zero, List.set_cons_succ, List.getElem_toArray, List.getElem_cons_zero, List.getElem_cons_succ]
      clear z0 z1 f0 f1 l7 SS
      replace E9 := hik (E9.out.set (El.ml (El.sb a b) v))
      replace KW := hik (chg2_at KW.out g9 (fun l => absurd l (by omega)) 0 1 (.int .i64 (El.ml (El.sb a b) v).v.1) (.int .i64 (El.ml (El.sb a b) v).v.2))
      generalize hUS : ((U2.setCell ⟨g9, 0, none⟩ (.int .i64 (El.ml (El.sb a b) v).v.1)).setCell ⟨g9, 1, none⟩ (.int .i64 (El.ml (El.sb a b) v).v.2)) = US at E9 KW hHeld ⊢
      clear hUS
      refine wpAnyH_done (by kernel_rfl) ?_ _
      go_wp2_with fail
      go_meet
      exact ⟨g9, rfl, hik l9, E9, KW⟩
  case rest =>
    obtain ⟨g9, rfl, HL9, E9, KC⟩ := hcut
    clear a0 a1 b0 b1 v0 v1
    replace EA := hik (EA.out.keep KC.out)
    replace EB := hik (EB.out.keep KC.out)
    replace ER := hik (ER.out.keep KC.out)
    replace EZ := hik (EZ.out.keep KC.out)
    replace G0 := hik (G0.out.trans KC.out)
    clear KC EV
    have a0 := EA.out.c0
    have a1 := EA.out.c1
    have b0 := EB.out.c0
    have b1 := EB.out.c1
    have r0 := ER.out.c0
    have r1 := ER.out.c1
    have d0 := E9.out.c0
    have d1 := E9.out.c1
    go_wp2
    have KW := hik ((Chg.refl nob wc).drew1)
    have SA := hik (fun (WW : World) (kW : Chg nob wc WW) => (show (WW.cell? ⟨w.heap.size, 0, none⟩ = some (.int .i64 a.v.1) ∧ WW.cell? ⟨w.heap.size, 1, none⟩ = some (.int .i64 a.v.2) ∧ WW.cell? ⟨(w.heap.size + 1), 0, none⟩ = some (.int .i64 b.v.1) ∧ WW.cell? ⟨(w.heap.size + 1), 1, none⟩ = some (.int .i64 b.v.2) ∧ WW.cell? ⟨(w.heap.size + 1 + 1), 0, none⟩ = some (.int .i64 r.v.1) ∧ WW.cell? ⟨(w.heap.size + 1 + 1), 1, none⟩ = some (.int .i64 r.v.2) ∧ WW.cell? ⟨g9, 0, none⟩ = some (.int .i64 (El.ml (El.sb a b) v).v.1) ∧ WW.cell? ⟨g9, 1, none⟩ = some (.int .i64 (El.ml (El.sb a b) v).v.2)) from ⟨kW.see a0, kW.see a1, kW.see b0, kW.see b1, kW.see r0, kW.see r1, kW.see d0, kW.see d1⟩))
    refine wp_regionL (L := 9) (S := fun w' => w'.cell? ⟨w.heap.size, 0, none⟩ = some (.int .i64 a.v.1) ∧ w'.cell? ⟨w.heap.size, 1, none⟩ = some (.int .i64 a.v.2) ∧ w'.cell? ⟨(w.heap.size + 1), 0, none⟩ = some (.int .i64 b.v.1) ∧ w'.cell? ⟨(w.heap.size + 1), 1, none⟩ = some (.int .i64 b.v.2) ∧ w'.cell? ⟨(w.heap.size + 1 + 1), 0, none⟩ = some (.int .i64 r.v.1) ∧ w'.cell? ⟨(w.heap.size + 1 + 1), 1, none⟩ = some (.int .i64 r.v.2) ∧ w'.cell? ⟨g9, 0, none⟩ = some (.int .i64 (El.ml (El.sb a b) v).v.1) ∧ w'.cell? ⟨g9, 1, none⟩ = some (.int .i64 (El.ml (El.sb a b) v).v.2)) (by kernel_rfl) ⟨a0, a1, b0, b1, r0, r1, d0, d1⟩ (fun hHeld => ?_)
    refine wpAnyL_take (i := 0) (v := ?_) rfl (by kernel_rfl) (by kernel_rfl) (by kernel_rfl) (fun _ _ _ h => h) (by rfl) (by kernel_rfl) (by kernel_rfl) (Or.inl ⟨by rfl, ?_⟩) (by assumption) ?_
    rotate_left 1
    · (intro w' hSw; (try dsimp only at hSw); go_simp; try with_reducible rfl)
    try simp only [Act.put, List.setIfInBounds_toArray, List.set_cons_zero, List.set_cons_succ, List.getElem_toArray, List.getElem_cons_zero, List.getElem_cons_succ]
    refine wpAnyL_take (i := 1) (v := ?_) rfl (by kernel_rfl) (by kernel_rfl) (by kernel_rfl) (fun _ _ _ h => h) (by rfl) (by kernel_rfl) (by kernel_rfl) (Or.inl ⟨by rfl, ?_⟩) (by assumption) ?_
    rotate_left 1
    · (intro w' hSw; (try dsimp only at hSw); go_simp; try with_reducible rfl)
    try simp only [Act.put, List.setIfInBounds_toArray, List.set_cons_zero, List.set_cons_succ, List.getElem_toArray, List.getElem_cons_zero, List.getElem_cons_succ]
    refine wpAnyL_take (i := 3) (v := ?_) rfl (by kernel_rfl) (by kernel_rfl) (by kernel_rfl) (fun _ _ _ h => h) (by rfl) (by kernel_rfl) (by kernel_rfl) (Or.inl ⟨by rfl, ?_⟩) (by assumption) ?_
    rotate_left 1
    · (intro w' hSw; (try dsimp only at hSw); go_simp; try with_reducible rfl)
    try simp only [Act.put, List.setIfInBounds_toArray, List.set_cons_zero, List.set_cons_succ, List.getElem_toArray, List.getElem_cons_zero, List.getElem_cons_succ]
    refine wpAnyL_take (i := 4) (v := ?_) rfl (by kernel_rfl) (by kernel_rfl) (by kernel_rfl) (fun _ _ _ h => h) (by rfl) (by kernel_rfl) (by kernel_rfl) (Or.inl ⟨by rfl, ?_⟩) (by assumption) ?_
    rotate_left 1
    · (intro w' hSw; (try dsimp only at hSw); go_simp; try with_reducible rfl)
    try simp only [Act.put, List.setIfInBounds_toArray, List.set_cons_zero, List.set_cons_succ, List.getElem_toArray, List.getElem_cons_zero, List.getElem_cons_succ]
    refine wpAnyL_take (i := 7) (v := ?_) rfl (by kernel_rfl) (by kernel_rfl) (by kernel_rfl) (fun _ _ _ h => h) (by rfl) (by kernel_rfl) (by kernel_rfl) (Or.inl ⟨by rfl, ?_⟩) (by assumption) ?_
    rotate_left 1
    · (intro w' hSw; (try dsimp only at hSw); go_simp; try with_reducible rfl)
    try simp only [Act.put, List.setIfInBounds_toArray, List.set_cons_zero, List.set_cons_succ, List.getElem_toArray, List.getElem_cons_zero, List.getElem_cons_succ]
    refine wpAnyL_ready (rs := [2]) (by kernel_rfl) (by simp) ?_
    refine AllReadyL.cons rfl (fun K hK => ?_) AllReadyL.nil
    refine stepL_callN 25 #[.tmp 15, .tmp 16] #[28, 28] (by rfl) (by rfl) #[.agg #[.int .i64 a.v.1, .int .i64 a.v.2], .agg #[.int .i64 b.v.1, .int .i64 b.v.2]] (by simp only [List.map_toArray, List.map_cons, List.map_nil] <;> rfl) (run_go Try.func25 (by kernel_rfl) (by kernel_rfl) _ _) (ad_el a b _) ?_
    rintro e V1 ⟨he, kk⟩
    refine ⟨_, he, ?_⟩
    replace KW := hik (KW.out.trans kk)
    refine hK.out _ _ (SA.out _ KW.out) (fun hHeld => ?_)
    clear hK K
    try simp only [Act.put, List.setIfInBounds_toArray, List.set_cons_zero, List.set_cons_succ, List.getElem_toArray, List.getElem_cons_zero, List.getElem_cons_succ]
    clear he kk
    refine wpAnyL_ready (rs := [5]) (by kernel_rfl) (by simp) ?_
    refine AllReadyL.cons rfl (fun K hK => ?_) AllReadyL.nil
    refine stepL_callN 24 #[.tmp 18, .tmp 19] #[28, 28] (by rfl) (by rfl) #[.agg #[.int .i64 r.v.1, .int .i64 r.v.2], .agg #[.int .i64 (El.ml (El.sb a b) v).v.1, .int .i64 (El.ml (El.sb a b) v).v.2]] (by simp only [List.map_toArray, List.map_cons, List.map_nil] <;> rfl) (run_go Try.func24 (by kernel_rfl) (by kernel_rfl) _ _) (ml_el r (El.ml (El.sb a b) v) _) ?_
    rintro e V2 ⟨he, kk⟩
    refine ⟨_, he, ?_⟩
    replace KW := hik (KW.out.trans kk)
    refine hK.out _ _ (SA.out _ KW.out) (fun hHeld => ?_)
    clear hK K
    try simp only [Act.put, List.setIfInBounds_toArray, List.set_cons_zero, List.set_cons_succ, List.getElem_toArray, List.getElem_cons_zero, List.getElem_cons_succ]
    clear he kk
    refine wpAnyL_ready (rs := [6]) (by kernel_rfl) (by simp) ?_
    refine AllReadyL.cons rfl (fun K hK => ?_) AllReadyL.nil
    refine stepL_callN 25 #[.tmp 17, .tmp 20] #[28, 28] (by rfl) (by rfl) #[.agg #[.int .i64 (El.ad a b).v.1, .int .i64 (El.ad a b).v.2], .agg #[.int .i64 (El.ml r (El.ml (El.sb a b) v)).v.1, .int .i64 (El.ml r (El.ml (El.sb a b) v)).v.2]] (by simp only [List.map_toArray, List.map_cons, List.map_nil] <;> rfl) (run_go Try.func25 (by kernel_rfl) (by kernel_rfl) _ _) (ad_el (El.ad a b) (El.ml r (El.ml (El.sb a b) v)) _) ?_
    rintro e V3 ⟨he, kk⟩
    refine ⟨_, he, ?_⟩
    replace KW := hik (KW.out.trans kk)
    refine hK.out _ _ (SA.out _ KW.out) (fun hHeld => ?_)
    clear hK K
    try simp only [Act.put, List.setIfInBounds_toArray, List.set_cons_zero, List.set_cons_succ, List.getElem_toArray, List.getElem_cons_zero, List.getElem_cons_succ]
    clear he kk
    refine wpAnyL_ready (rs := [8]) (by kernel_rfl) (by simp) ?_
    refine AllReadyL.cons rfl (fun K hK => ?_) AllReadyL.nil
    refine stepL_callN 24 #[.tmp 21, .tmp 22] #[28, 28] (by rfl) (by rfl) #[.agg #[.int .i64 (El.ad (El.ad a b) (El.ml r (El.ml (El.sb a b) v))).v.1, .int .i64 (El.ad (El.ad a b) (El.ml r (El.ml (El.sb a b) v))).v.2], .agg #[.int .i64 1065353217, .int .i64 0]] (by simp only [List.map_toArray, List.map_cons, List.map_nil] <;> rfl) (run_go Try.func24 (by kernel_rfl) (by kernel_rfl) _ _) (ml_half (El.ad (El.ad a b) (El.ml r (El.ml (El.sb a b) v))) _) ?_
    rintro e V4 ⟨he, kk⟩
    refine ⟨_, he, ?_⟩
    replace KW := hik (KW.out.trans kk)
    refine hK.out _ _ (SA.out _ KW.out) (fun hHeld => ?_)
    clear hK K
    try simp only [Act.put, List.setIfInBounds_toArray, List.set_cons_zero, List.set_cons_succ, List.getElem_toArray, List.getElem_cons_zero, List.getElem_cons_succ]
    clear he kk
    refine wpAnyL_ready (rs := [9]) (by kernel_rfl) (by simp) ?_
    refine AllReadyL.last rfl (by kernel_rfl) (fun K hK => ?_)
    have EN := hik (EZ.out.keep KW.out)
    have g0 : V4.cell? ⟨(w.heap.size + 1 + 1 + 1 + 1), 0, none⟩ = some (.int .i64 0) := EN.out.c0
    have g1 : V4.cell? ⟨(w.heap.size + 1 + 1 + 1 + 1), 1, none⟩ = some (.int .i64 0) := EN.out.c1
    have f0 := EN.out.fz 0
    have f1 := EN.out.fz 1
    have ln : (w.heap.size + 1 + 1 + 1 + 1) < V4.heap.size := EN.out.lt
    simp only [List.getElem_toArray, List.getElem_cons_zero, List.getElem_cons_succ]
    go_simp
    refine hK.out _ _ ?_
    clear hK K
    try simp only [Act.put, List.setIfInBounds_toArray, List.set_cons_zero, List.set_cons_succ, List.getElem_toArray, List.getElem_cons_zero, List.getElem_cons_succ]
    clear g0 g1 f0 f1 ln
    refine wpAnyL_done (by kernel_rfl) ?_ _
    have u0 := (EN.out.set (El.ml (El.ad (El.ad a b) (El.ml r (El.ml (El.sb a b) v))) (El.inv (El.nb 2)))).c0
    have u1 := (EN.out.set (El.ml (El.ad (El.ad a b) (El.ml r (El.ml (El.sb a b) v))) (El.inv (El.nb 2)))).c1
    have GE := hik (chg2_at (G0.out.trans KW.out) (w.heap.size + 1 + 1 + 1 + 1) (fun l => absurd l (by omega)) 0 1 (.int .i64 (El.ml (El.ad (El.ad a b) (El.ml r (El.ml (El.sb a b) v))) (El.inv (El.nb 2))).v.1) (.int .i64 (El.ml (El.ad (El.ad a b) (El.ml r (El.ml (El.sb a b) v))) (El.inv (El.nb 2))).v.2))
    go_wp2
    exact bodyPost_ret (v := .agg #[.int .i64 (El.ml (El.ad (El.ad a b) (El.ml r (El.ml (El.sb a b) v))) (El.inv (El.nb 2))).v.1, .int .i64 (El.ml (El.ad (El.ad a b) (El.ml r (El.ml (El.sb a b) v))) (El.inv (El.nb 2))).v.2]) (by simp [results, Try.results23, go_sem, u0, u1]) rfl ⟨rfl, GE.out⟩

end Go.Proofs.Ytagjffjdoimhbad
