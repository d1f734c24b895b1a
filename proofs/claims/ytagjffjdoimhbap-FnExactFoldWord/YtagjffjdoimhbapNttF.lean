/- What the model's folded word answers: a contract. Conditions: a word of 2 to the m, at most 512, that can be read. -/
import Derived.Test.YtagjffjdoimhbapNttP
namespace Go.Proofs.Ytagjffjdoimhbap
open Go.ChangeShapes Go.WideShapes Go.ChangeAt Go.RowKit
set_option linter.unusedVariables false
set_option maxRecDepth 100000
set_option linter.unusedSimpArgs false

/-- A word folded: H values. -/
def fwE (m H : Nat) (t : Nat → El) (r : El) (k : Nat) : El := El.fpr (t k) (t (k + H)) r (El.pwE (El.rtE m) k)

set_option maxHeartbeats 4000000 in
theorem sFoldW_any {m : Nat} (hm : m ≤ 9) (c : Option Addr) (N cap H : Nat) (HM : Hid (N = 2 ^ m)) (hN : N = 2 * H) (t : Nat → El) (r : El) (w : World) (h : Hid (PairE w c N t)) : Calls Try.prog 39 #[.slice c N cap, .agg #[.int .i64 r.v.1, .int .i64 r.v.2]] w fun e w' => SlAns w H (fwE m H t r) e w' := by
  obtain ⟨i0, hi, hz0, hz1, hz2⟩ := info_parts infoExt
  have HI := hik hi
  have HZ0 := hik hz0
  have HZ1 := hik hz1
  have HZ2 := hik hz2
  clear hi hz0 hz1 hz2
  have hN5 : N ≤ 512 := by rw [HM.out]; exact pow_le9 hm
  have hdiv : (N : Int) / 2 = (H : Int) := by omega
  have HN := hik hN
  clear hN
  go_enter Try.func39, Try.ntmps39
  go_wp2
  go_loopw [5, 7] (fun v i W => ∃ k : Nat, k ≤ H ∧ i = .int .i64 k ∧ Hid (W.ownsRow (w.heap.size + 1) 38 2 v k ((List.range (k * 2)).map (pf (cA (fwE m H t r)) (cB (fwE m H t r))))) ∧ Hid (Chg nob (w.alloc (.cells #[.int .i64 r.v.1, .int .i64 r.v.2] 38)) W)) (fun _ i _ => H - (intOf i).toNat)
  case atStart => exact ⟨0, Nat.zero_le _, rfl, hik (by simpa using flNone (w.alloc (.cells #[.int .i64 r.v.1, .int .i64 r.v.2] 38)) (w.heap.size + 1) 38 2 (by simp)), hik ((Chg.refl _ _).alloc _)⟩
  case round =>
    obtain ⟨k, hk, rfl, HW, HG⟩ := hrel
    rename World => wi
    have hHN : H ≤ 256 := by have := HN.out; omega
    by_cases hlt : k < H
    · obtain ⟨p, hp⟩ : ∃ p, p = k + H := ⟨_, rfl⟩
      have HP := hik hp
      have hkH : (k : Int) < (H : Int) := by omega
      have hkN : k < N := by have := HN.out; omega
      have hpN : p < N := by have := HN.out; omega
      have hk1 : (k : Int) < (N : Int) := by omega
      have hk0 : (0 : Int) ≤ (k : Int) := by omega
      have hp1 : (p : Int) < (N : Int) := by omega
      have hp0 : (0 : Int) ≤ (p : Int) := by omega
      have hwp : IntKind.i64.wrap ((k : Int) + (H : Int)) = (p : Int) := by rw [IntKind.wrap_i64]; omega
      obtain ⟨xb, xo, ec, hxb, _, _⟩ := PairE.at_ h.out hkN
      subst ec
      have U := hik (PairE.keep h.out ((Chg.refl nob w).alloc (.cells #[.int .i64 r.v.1, .int .i64 r.v.2] 38)))
      have x0 := PairE.c0 U.out hkN
      have x1 := PairE.c1 U.out hkN
      have y0 := PairE.c0 U.out hpN
      have y1 := PairE.c1 U.out hpN
      have r0 := (ElB.new w r).c0
      have r1 := (ElB.new w r).c1
      have hsz := HG.out.size
      have hsz' : w.heap.size + 1 ≤ wi.heap.size := by simpa using hsz
      clear hp hsz
      go_wp2
      have KD := hik ((Chg.refl nob wi).drew1)
      have KW := hik (HG.out.drew1)
      have SA := hik (fun (WW : World) (kW : Chg nob (w.alloc (.cells #[.int .i64 r.v.1, .int .i64 r.v.2] 38)) WW) => (show (WW.cell? ⟨xb, xo + k * 2, none⟩ = some (.int .i64 (t k).v.1) ∧ WW.cell? ⟨xb, xo + k * 2 + 1, none⟩ = some (.int .i64 (t k).v.2) ∧ WW.cell? ⟨xb, xo + p * 2, none⟩ = some (.int .i64 (t p).v.1) ∧ WW.cell? ⟨xb, xo + p * 2 + 1, none⟩ = some (.int .i64 (t p).v.2) ∧ WW.cell? ⟨w.heap.size, 0, none⟩ = some (.int .i64 r.v.1) ∧ WW.cell? ⟨w.heap.size, 1, none⟩ = some (.int .i64 r.v.2)) from ⟨kW.see x0, kW.see x1, kW.see y0, kW.see y1, kW.see r0, kW.see r1⟩))
      refine wp_region_held_drew (S := fun w' => w'.cell? ⟨xb, xo + k * 2, none⟩ = some (.int .i64 (t k).v.1) ∧ w'.cell? ⟨xb, xo + k * 2 + 1, none⟩ = some (.int .i64 (t k).v.2) ∧ w'.cell? ⟨xb, xo + p * 2, none⟩ = some (.int .i64 (t p).v.1) ∧ w'.cell? ⟨xb, xo + p * 2 + 1, none⟩ = some (.int .i64 (t p).v.2) ∧ w'.cell? ⟨w.heap.size, 0, none⟩ = some (.int .i64 r.v.1) ∧ w'.cell? ⟨w.heap.size, 1, none⟩ = some (.int .i64 r.v.2)) (by kernel_rfl) (SA.out _ KW.out) (fun hHeld => ?_)
      refine wpAnyH_take (i := 0) (v := ?_) rfl (by kernel_rfl) (by kernel_rfl) (by kernel_rfl) (fun _ _ _ h => h) (Or.inl ⟨by rfl, ?_⟩) (by assumption) ?_
      rotate_left 1
      · (intro w' hSw; (try dsimp only at hSw); go_simp; try with_reducible rfl)
      try simp only [Act.put, List.setIfInBounds_toArray, List.set_cons_zero, List.set_cons_succ, List.getElem_toArray, List.getElem_cons_zero, List.getElem_cons_succ]
      refine wpAnyH_take (i := 1) (v := ?_) rfl (by kernel_rfl) (by kernel_rfl) (by kernel_rfl) (fun _ _ _ h => h) (Or.inl ⟨by rfl, ?_⟩) (by assumption) ?_
      rotate_left 1
      · (intro w' hSw; (try dsimp only at hSw); go_simp; try with_reducible rfl)
      try simp only [Act.put, List.setIfInBounds_toArray, List.set_cons_zero, List.set_cons_succ, List.getElem_toArray, List.getElem_cons_zero, List.getElem_cons_succ]
      refine wpAnyH_take (i := 2) (v := ?_) rfl (by kernel_rfl) (by kernel_rfl) (by kernel_rfl) (fun _ _ _ h => h) (Or.inl ⟨by rfl, ?_⟩) (by assumption) ?_
      rotate_left 1
      · (intro w' hSw; (try dsimp only at hSw); go_simp; try with_reducible rfl)
      try simp only [Act.put, List.setIfInBounds_toArray, List.set_cons_zero, List.set_cons_succ, List.getElem_toArray, List.getElem_cons_zero, List.getElem_cons_succ]
      refine wpAnyH_take (i := 3) (v := ?_) rfl (by kernel_rfl) (by kernel_rfl) (by kernel_rfl) (fun _ _ _ h => h) (Or.inl ⟨by rfl, ?_⟩) (by assumption) ?_
      rotate_left 1
      · (intro w' hSw; (try dsimp only at hSw); go_simp; try with_reducible rfl)
      try simp only [Act.put, List.setIfInBounds_toArray, List.set_cons_zero, List.set_cons_succ, List.getElem_toArray, List.getElem_cons_zero, List.getElem_cons_succ]
      refine wpAnyH_take (i := 4) (v := ?_) rfl (by kernel_rfl) (by kernel_rfl) (by kernel_rfl) (fun _ _ _ h => h) (Or.inl ⟨by rfl, ?_⟩) (by assumption) ?_
      rotate_left 1
      · (intro w' hSw; (try dsimp only at hSw); go_simp; try with_reducible rfl)
      try simp only [Act.put, List.setIfInBounds_toArray, List.set_cons_zero, List.set_cons_succ, List.getElem_toArray, List.getElem_cons_zero, List.getElem_cons_succ]
      refine wpAnyH_take (i := 5) (v := ?_) rfl (by kernel_rfl) (by kernel_rfl) (by kernel_rfl) (fun _ _ _ h => h) (Or.inl ⟨by rfl, ?_⟩) (by assumption) ?_
      rotate_left 1
      · (intro w' hSw; (try dsimp only at hSw); go_simp; try with_reducible rfl)
      try simp only [Act.put, List.setIfInBounds_toArray, List.set_cons_zero, List.set_cons_succ, List.getElem_toArray, List.getElem_cons_zero, List.getElem_cons_succ]
      refine wpAnyH_take (i := 6) (v := ?_) rfl (by kernel_rfl) (by kernel_rfl) (by kernel_rfl) (fun _ _ _ h => h) (Or.inl ⟨by rfl, ?_⟩) (by assumption) ?_
      rotate_left 1
      · (intro w' hSw; (try dsimp only at hSw); go_simp; try with_reducible rfl)
      try simp only [Act.put, List.setIfInBounds_toArray, List.set_cons_zero, List.set_cons_succ, List.getElem_toArray, List.getElem_cons_zero, List.getElem_cons_succ]
      refine wpAnyH_take (i := 7) (v := ?_) rfl (by kernel_rfl) (by kernel_rfl) (by kernel_rfl) (fun _ _ _ h => h) (Or.inl ⟨by rfl, ?_⟩) (by assumption) ?_
      rotate_left 1
      · (intro w' hSw; (try dsimp only at hSw); go_simp; try with_reducible rfl)
      try simp only [Act.put, List.setIfInBounds_toArray, List.set_cons_zero, List.set_cons_succ, List.getElem_toArray, List.getElem_cons_zero, List.getElem_cons_succ]
      refine wpAnyH_take (i := 8) (v := ?_) rfl (by kernel_rfl) (by kernel_rfl) (by kernel_rfl) (fun _ _ _ h => h) (Or.inl ⟨by rfl, ?_⟩) (by assumption) ?_
      rotate_left 1
      · (intro w' hSw; (try dsimp only at hSw); go_simp; try with_reducible rfl)
      try simp only [Act.put, List.setIfInBounds_toArray, List.set_cons_zero, List.set_cons_succ, List.getElem_toArray, List.getElem_cons_zero, List.getElem_cons_succ]
      refine wpAnyH_take (i := 9) (v := ?_) rfl (by kernel_rfl) (by kernel_rfl) (by kernel_rfl) (fun _ _ _ h => h) (Or.inl ⟨by rfl, ?_⟩) (by assumption) ?_
      rotate_left 1
      · (intro w' hSw; (try dsimp only at hSw); go_simp; try with_reducible rfl)
      try simp only [Act.put, List.setIfInBounds_toArray, List.set_cons_zero, List.set_cons_succ, List.getElem_toArray, List.getElem_cons_zero, List.getElem_cons_succ]
      refine wpAnyH_take (i := 10) (v := .int .i64 (H : Int)) rfl (by kernel_rfl) (by kernel_rfl) (by kernel_rfl) (fun _ _ _ h => h) (Or.inl ⟨by rfl, ?_⟩) (by assumption) ?_
      · (intro w' hSw; (try dsimp only at hSw); go_simp; first | done | exact hdiv | (rw [IntKind.wrap_i64]; omega) | (rw [hdiv]))
      try simp only [Act.put, List.setIfInBounds_toArray, List.set_cons_zero, List.set_cons_succ, List.getElem_toArray, List.getElem_cons_zero, List.getElem_cons_succ]
      refine wpAnyH_take (i := 11) (v := .int .i64 (p : Int)) rfl (by kernel_rfl) (by kernel_rfl) (by kernel_rfl) (fun _ _ _ h => h) (Or.inl ⟨by rfl, ?_⟩) (by assumption) ?_
      · (intro w' hSw; (try dsimp only at hSw); go_simp; first | done | exact hwp)
      try simp only [Act.put, List.setIfInBounds_toArray, List.set_cons_zero, List.set_cons_succ, List.getElem_toArray, List.getElem_cons_zero, List.getElem_cons_succ]
      refine wpAnyH_take (i := 12) (v := ?_) rfl (by kernel_rfl) (by kernel_rfl) (by kernel_rfl) (fun _ _ _ h => h) (Or.inl ⟨by rfl, ?_⟩) (by assumption) ?_
      rotate_left 1
      · (intro w' hSw; (try dsimp only at hSw); go_simp; try with_reducible rfl)
      try simp only [Act.put, List.setIfInBounds_toArray, List.set_cons_zero, List.set_cons_succ, List.getElem_toArray, List.getElem_cons_zero, List.getElem_cons_succ]
      refine wpAnyH_take (i := 13) (v := ?_) rfl (by kernel_rfl) (by kernel_rfl) (by kernel_rfl) (fun _ _ _ h => h) (Or.inl ⟨by rfl, ?_⟩) (by assumption) ?_
      rotate_left 1
      · (intro w' hSw; (try dsimp only at hSw); go_simp; try with_reducible rfl)
      try simp only [Act.put, List.setIfInBounds_toArray, List.set_cons_zero, List.set_cons_succ, List.getElem_toArray, List.getElem_cons_zero, List.getElem_cons_succ]
      refine wpAnyH_take (i := 14) (v := ?_) rfl (by kernel_rfl) (by kernel_rfl) (by kernel_rfl) (fun _ _ _ h => h) (Or.inl ⟨by rfl, ?_⟩) (by assumption) ?_
      rotate_left 1
      · (intro w' hSw; (try dsimp only at hSw); go_simp; try with_reducible rfl)
      try simp only [Act.put, List.setIfInBounds_toArray, List.set_cons_zero, List.set_cons_succ, List.getElem_toArray, List.getElem_cons_zero, List.getElem_cons_succ]
      refine wpAnyH_ready (rs := [15]) (by kernel_rfl) (by simp) ?_
      refine AllReadyH.cons rfl (fun K hK => ?_) AllReadyH.nil
      refine stepL_callN 46 #[.tmp 18, .tmp 19, .tmp 23, .tmp 30, .tmp 31] #[3, 3, 38, 38, 38] (by rfl) (by rfl) #[.int .i64 (N : Int), .int .i64 (k : Int), .agg #[.int .i64 (t k).v.1, .int .i64 (t k).v.2], .agg #[.int .i64 (t p).v.1, .int .i64 (t p).v.2], .agg #[.int .i64 r.v.1, .int .i64 r.v.2]] (by simp only [List.map_toArray, List.map_cons, List.map_nil] <;> rfl) (run_go Try.func46 (by kernel_rfl) (by kernel_rfl) _ _) (sPair_any hm N k HM (by omega) (t k) (t p) r _) ?_
      rintro e U1 ⟨he, kk⟩
      replace HW := hik (flKeep HW.out (KD.out.trans kk))
      replace KD := hik (Chg.refl nob U1)
      refine ⟨_, he, ?_⟩
      replace KW := hik (KW.out.trans kk)
      refine hK.out _ _ (SA.out _ KW.out) (fun hHeld => ?_)
      clear hK K
      try simp only [Act.put, List.setIfInBounds_toArray, List.set_cons_zero, List.set_cons_succ, List.getElem_toArray, List.getElem_cons_zero, List.getElem_cons_succ]
      clear he kk
      refine wpAnyH_ready (rs := [16]) (by kernel_rfl) (by simp) ?_
      refine AllReadyH.cons rfl (fun K hK => ?_) AllReadyH.nil
      simp only [List.getElem_toArray, List.getElem_cons_zero, List.getElem_cons_succ]
      go_simp
      replace KW := hik (KW.out.alloc (.cells #[.int .i64 (El.fpr (t k) (t p) r (El.pwE (El.rtE m) k)).v.1, .int .i64 (El.fpr (t k) (t p) r (El.pwE (El.rtE m) k)).v.2] 38))
      refine hK.out _ _ (SA.out _ KW.out) (fun hHeld => ?_)
      clear hK K
      try simp only [Act.put, List.setIfInBounds_toArray, List.set_cons_zero, List.set_cons_succ, List.getElem_toArray, List.getElem_cons_zero, List.getElem_cons_succ]
      refine wpAnyH_ready (rs := [17]) (by kernel_rfl) (by simp) ?_
      refine AllReadyH.cons rfl (fun K hK => ?_) AllReadyH.nil
      refine step_append_lies _ (by rfl) (.tmp 17) (.tmp 33) 24 (by rfl) (w.heap.size + 1) 38 i0 (.agg #[.int .i64 0, .int .i64 0]) 2 16 Try.underlying24 HI.out HZ0.out HZ1.out HZ2.out rfl (by decide) _ k _ (by rfl) (HW.out.alloc _) ⟨_, 0, none⟩ 1 1 [.int .i64 (El.fpr (t k) (t p) r (El.pwE (El.rtE m) k)).v.1, .int .i64 (El.fpr (t k) (t p) r (El.pwE (El.rtE m) k)).v.2] (by rfl) rfl (flNews _ _ _ _) (flOne _ _) (by decide) (by unfold maxLen; omega) (by omega) (by have := KW.out.size; simp at this ⊢; omega) _ rfl ?_
      intro g6 cp6 w6 o6 hg6 hat6 hlt6
      replace KW : Hid (Chg nob (w.alloc (.cells #[.int .i64 r.v.1, .int .i64 r.v.2] 38)) w6) := hik (KW.out.grown hg6 (fun b e l => absurd (HW.out.lt b e).1 (by simp at l; omega)))
      have HO := hik o6
      clear o6 hg6 hat6 hlt6
      refine hK.out _ _ (SA.out _ KW.out) (fun hHeld => ?_)
      clear hK K
      try simp only [Act.put, List.setIfInBounds_toArray, List.set_cons_zero, List.set_cons_succ, List.getElem_toArray, List.getElem_cons_zero, List.getElem_cons_succ]
      refine wpAnyH_take (i := 18) (v := ?_) rfl (by kernel_rfl) (by kernel_rfl) (by kernel_rfl) (fun _ _ _ h => h) (Or.inl ⟨by rfl, ?_⟩) (by assumption) ?_
      rotate_left 1
      · (intro w' hSw; (try dsimp only at hSw); go_simp; try with_reducible rfl)
      try simp only [Act.put, List.setIfInBounds_toArray, List.set_cons_zero, List.set_cons_succ, List.getElem_toArray, List.getElem_cons_zero, List.getElem_cons_succ]
      refine wpAnyH_done (by kernel_rfl) ?_ _
      have HO2 : Hid (w6.ownsRow (w.heap.size + 1) 38 2 (.slice (some ⟨g6, 0, none⟩) (k + 1) cp6) (k + 1) ((List.range ((k + 1) * 2)).map (pf (cA (fwE m H t r)) (cB (fwE m H t r))))) := hik (by
        rw [← flPair]
        have eX : fwE m H t r k = (El.fpr (t k) (t p) r (El.pwE (El.rtE m) k)) := by rw [HP.out]; rfl
        have e1 : cA (fwE m H t r) k = (El.fpr (t k) (t p) r (El.pwE (El.rtE m) k)).v.1 := by unfold cA; rw [eX]
        have e2 : cB (fwE m H t r) k = (El.fpr (t k) (t p) r (El.pwE (El.rtE m) k)).v.2 := by unfold cB; rw [eX]
        rw [e1, e2]
        exact HO.out)
      clear HO HW SA hHeld x0 x1 y0 y1 r0 r1
      have KF := hik KW.out
      clear KW HG
      go_wp2
      go_roundw
      case rel => exact ⟨k + 1, by omega, by go_num, HO2, KF⟩
      case measure => simp [intOf]; omega
    · obtain rfl : H = k := by omega
      go_wp2
      go_ret
      exact SlAns.of_owns HW.out (by omega) (((Chg.refl nob w).alloc _).trans HG.out)
end Go.Proofs.Ytagjffjdoimhbap
