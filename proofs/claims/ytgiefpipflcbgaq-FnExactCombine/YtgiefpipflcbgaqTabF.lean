/- What the model's bound tables answer: contracts. Conditions: rows that can be read, lengths of at most 2 to the 40. -/
import Derived.Test.YtgiefpipflcbgaqElR
import Derived.Test.YtgiefpipflcbgaqBitE
import Derived.Test.YtgiefpipflcbgaqTabQ
import Derived.Deep.AppendLies
namespace Go.Proofs.Ytgiefpipflcbgaq
open Go.ChangeShapes Go.WideShapes Go.ChangeAt Go.RowKit
set_option linter.unusedVariables false
set_option maxRecDepth 100000
set_option linter.unusedSimpArgs false

theorem flKeep {w w' : World} {B : Nat} {t : TypeId} {z : Nat} {v : Value} {n : Nat} {xs : List Value} (h : w.ownsRow B t z v n xs) (k : Chg nob w w') : w'.ownsRow B t z v n xs :=
  h.kept (row := none) ⟨k.os, k.tape, k.output, k.size, fun i hi _ => k.block i hi (fun x => x)⟩ (by cases e : v.ownBlock <;> simp)
theorem flNone (w : World) (B : Nat) (t : TypeId) (z : Nat) (hB : B ≤ w.heap.size) : (w.alloc (.cells #[] t)).ownsRow B t z (.slice (some ⟨w.heap.size, 0, none⟩) 0 0) 0 [] :=
  ⟨by simp, .inr ⟨w.heap.size, 0, #[], rfl, hB, Array.getElem?_push_size, Nat.le_refl _, Nat.zero_le _, by simp, by simp⟩⟩
theorem flNews (W : World) (a b : Int) (T : TypeId) : ∀ j u, ([.int .i64 a, .int .i64 b] : List Value)[j]? = some u → (W.alloc (.cells #[.int .i64 a, .int .i64 b] T)).cell? ((⟨W.heap.size, 0, none⟩ : Addr).add j) = some u := by
  intro j u hj
  match j, hj with
  | 0, hj => simp at hj; subst hj; simp [Addr.add]
  | 1, hj => simp at hj; subst hj; simp [Addr.add]
  | j + 2, hj => simp at hj
theorem flOne (a b : Int) : ∀ u ∈ ([.int .i64 a, .int .i64 b] : List Value), u.oneCell' = true := by
  intro u hu
  simp at hu
  rcases hu with rfl | rfl <;> rfl
theorem flPair (f g : Nat → Int) (k : Nat) : (List.range (k * 2)).map (pf f g) ++ [.int .i64 (f k), .int .i64 (g k)] = (List.range ((k + 1) * 2)).map (pf f g) := by
  rw [show (k + 1) * 2 = k * 2 + 1 + 1 by omega, List.range_succ, List.range_succ]
  simp [pf_even, pf_odd]
/-- A row of a call's own as a slice. -/
theorem SlAns.of_owns {w w' : World} {B n : Nat} {v : Value} {t : Nat → El} (ho : w'.ownsRow B 25 2 v n ((List.range (n * 2)).map (pf (cA t) (cB t)))) (hB : w.heap.size ≤ B) (k : Chg nob w w') : SlAns w n t (.returned v) w' := by
  rcases ho.2 with ⟨rfl, rfl⟩ | ⟨b, cp, cur, ev, _, _, hl, hm, _⟩
  · exact ⟨none, 0, rfl, Nat.le_refl _, by omega, .inl rfl, k⟩
  · obtain ⟨c', cap', e', hle, h⟩ := OwnE.of_owns ho
    rw [e'] at ev
    simp at ev
    obtain ⟨rfl, rfl⟩ := ev
    exact ⟨_, _, by rw [e'], hle, by unfold maxLen at hm; omega, OwnE.low h hB, k⟩

set_option maxHeartbeats 4000000 in
theorem sFold_any (c : Option Addr) (N cap m : Nat) (hN : N = 2 * m) (hm : m ≤ 32) (t : Nat → El) (r : El) (w : World) (h : Hid (PairE w c N t)) : Calls Try.prog 61 #[.slice c N cap, .agg #[.int .i64 r.v.1, .int .i64 r.v.2]] w fun e w' => SlAns w m (El.fldE t r) e w' := by
  obtain ⟨i0, hi, hz0, hz1, hz2⟩ := info_parts infoExt
  have HI := hik hi
  have HZ0 := hik hz0
  have HZ1 := hik hz1
  have HZ2 := hik hz2
  clear hi hz0 hz1 hz2
  have HN := hik hN
  have hN64 : N ≤ 64 := by omega
  clear hN
  go_enter Try.func61, Try.ntmps61
  go_wp2
  go_loopw [5, 6] (fun v i W => ∃ k : Nat, k ≤ m ∧ i = .int .i64 ((2 * k : Nat) : Int) ∧ Hid (W.ownsRow (w.heap.size + 1) 25 2 v k ((List.range (k * 2)).map (pf (cA (El.fldE t r)) (cB (El.fldE t r))))) ∧ Hid (Chg nob (w.alloc (.cells #[.int .i64 r.v.1, .int .i64 r.v.2] 25)) W)) (fun _ i _ => N - (intOf i).toNat)
  case atStart => exact ⟨0, Nat.zero_le _, rfl, hik (by simpa using flNone (w.alloc (.cells #[.int .i64 r.v.1, .int .i64 r.v.2] 25)) (w.heap.size + 1) 25 2 (by simp)), hik ((Chg.refl _ _).alloc _)⟩
  case round =>
    obtain ⟨k, hk, rfl, HW, HG⟩ := hrel
    rename World => wi
    by_cases hlt : k < m
    · obtain ⟨q, hq⟩ : ∃ q, q = 2 * k := ⟨_, rfl⟩
      obtain ⟨p, hp⟩ : ∃ p, p = q + 1 := ⟨_, rfl⟩
      rw [← hq]
      have HQ := hik hq
      have HP := hik hp
      have hqN : q < N := by have := HN.out; omega
      have hpN : p < N := by have := HN.out; omega
      have hq1 : (q : Int) < (N : Int) := by omega
      have hq0 : (0 : Int) ≤ (q : Int) := by omega
      have hp1 : (p : Int) < (N : Int) := by omega
      have hp0 : (0 : Int) ≤ (p : Int) := by omega
      have hwp : IntKind.i64.wrap ((q : Int) + 1) = (p : Int) := by rw [IntKind.wrap_i64]; omega
      obtain ⟨xb, xo, ec, hxb, _, _⟩ := PairE.at_ h.out hqN
      subst ec
      have U := hik (PairE.keep h.out ((Chg.refl nob w).alloc (.cells #[.int .i64 r.v.1, .int .i64 r.v.2] 25)))
      have x0 := PairE.c0 U.out hqN
      have x1 := PairE.c1 U.out hqN
      have y0 := PairE.c0 U.out hpN
      have y1 := PairE.c1 U.out hpN
      have r0 := (ElB.new w r).c0
      have r1 := (ElB.new w r).c1
      have hsz := HG.out.size
      have hsz' : w.heap.size + 1 ≤ wi.heap.size := by simpa using hsz
      clear hq hp hsz
      go_wp2
      have KD := hik ((Chg.refl nob wi).drew1)
      have KW := hik (HG.out.drew1)
      have SA := hik (fun (WW : World) (kW : Chg nob (w.alloc (.cells #[.int .i64 r.v.1, .int .i64 r.v.2] 25)) WW) => (show (WW.cell? ⟨xb, xo + q * 2, none⟩ = some (.int .i64 (t q).v.1) ∧ WW.cell? ⟨xb, xo + q * 2 + 1, none⟩ = some (.int .i64 (t q).v.2) ∧ WW.cell? ⟨xb, xo + p * 2, none⟩ = some (.int .i64 (t p).v.1) ∧ WW.cell? ⟨xb, xo + p * 2 + 1, none⟩ = some (.int .i64 (t p).v.2) ∧ WW.cell? ⟨w.heap.size, 0, none⟩ = some (.int .i64 r.v.1) ∧ WW.cell? ⟨w.heap.size, 1, none⟩ = some (.int .i64 r.v.2)) from ⟨kW.see x0, kW.see x1, kW.see y0, kW.see y1, kW.see r0, kW.see r1⟩))
      refine wp_region_held_drew (S := fun w' => w'.cell? ⟨xb, xo + q * 2, none⟩ = some (.int .i64 (t q).v.1) ∧ w'.cell? ⟨xb, xo + q * 2 + 1, none⟩ = some (.int .i64 (t q).v.2) ∧ w'.cell? ⟨xb, xo + p * 2, none⟩ = some (.int .i64 (t p).v.1) ∧ w'.cell? ⟨xb, xo + p * 2 + 1, none⟩ = some (.int .i64 (t p).v.2) ∧ w'.cell? ⟨w.heap.size, 0, none⟩ = some (.int .i64 r.v.1) ∧ w'.cell? ⟨w.heap.size, 1, none⟩ = some (.int .i64 r.v.2)) (by kernel_rfl) (SA.out _ KW.out) (fun hHeld => ?_)
      refine wpAnyH_take (i := 0) (v := ?_) rfl (by kernel_rfl) (by kernel_rfl) (by kernel_rfl) (fun _ _ _ h => h) (Or.inl ⟨by rfl, ?_⟩) (by assumption) ?_
      rotate_left 1
      · (intro w' hSw; (try dsimp only at hSw); go_simp; try with_reducible rfl)
      try simp only [Act.put, List.setIfInBounds_toArray, List.set_cons_zero, List.set_cons_succ, List.getElem_toArray, List.getElem_cons_zero, List.getElem_cons_succ]
      refine wpAnyH_take (i := 1) (v := ?_) rfl (by kernel_rfl) (by kernel_rfl) (by kernel_rfl) (fun _ _ _ h => h) (Or.inl ⟨by rfl, ?_⟩) (by assumption) ?_
      rotate_left 1
      · (intro w' hSw; (try dsimp only at hSw); go_simp; try with_reducible rfl)
      try simp only [Act.put, List.setIfInBounds_toArray, List.set_cons_zero, List.set_cons_succ, List.getElem_toArray, List.getElem_cons_zero, List.getElem_cons_succ]
      refine wpAnyH_take (i := 2) (v := ?_) rfl (by kernel_rfl) (by kernel_rfl) (by kernel_rfl) (fun _ _ _ h => h) (Or.inl ⟨by rfl, ?_⟩) (by assumption) ?_
      rotate_left 1
      · (intro w' hSw; (try dsimp only at hSw); go_simp; try with_reducible rfl)
      try simp only [Act.put, List.setIfInBounds_toArray, List.set_cons_zero, List.set_cons_succ, List.getElem_toArray, List.getElem_cons_zero, List.getElem_cons_succ]
      refine wpAnyH_take (i := 3) (v := ?_) rfl (by kernel_rfl) (by kernel_rfl) (by kernel_rfl) (fun _ _ _ h => h) (Or.inl ⟨by rfl, ?_⟩) (by assumption) ?_
      rotate_left 1
      · (intro w' hSw; (try dsimp only at hSw); go_simp; try with_reducible rfl)
      try simp only [Act.put, List.setIfInBounds_toArray, List.set_cons_zero, List.set_cons_succ, List.getElem_toArray, List.getElem_cons_zero, List.getElem_cons_succ]
      refine wpAnyH_take (i := 4) (v := ?_) rfl (by kernel_rfl) (by kernel_rfl) (by kernel_rfl) (fun _ _ _ h => h) (Or.inl ⟨by rfl, ?_⟩) (by assumption) ?_
      rotate_left 1
      · (intro w' hSw; (try dsimp only at hSw); go_simp; try with_reducible rfl)
      try simp only [Act.put, List.setIfInBounds_toArray, List.set_cons_zero, List.set_cons_succ, List.getElem_toArray, List.getElem_cons_zero, List.getElem_cons_succ]
      refine wpAnyH_take (i := 5) (v := ?_) rfl (by kernel_rfl) (by kernel_rfl) (by kernel_rfl) (fun _ _ _ h => h) (Or.inl ⟨by rfl, ?_⟩) (by assumption) ?_
      rotate_left 1
      · (intro w' hSw; (try dsimp only at hSw); go_simp; try with_reducible rfl)
      try simp only [Act.put, List.setIfInBounds_toArray, List.set_cons_zero, List.set_cons_succ, List.getElem_toArray, List.getElem_cons_zero, List.getElem_cons_succ]
      refine wpAnyH_take (i := 6) (v := ?_) rfl (by kernel_rfl) (by kernel_rfl) (by kernel_rfl) (fun _ _ _ h => h) (Or.inl ⟨by rfl, ?_⟩) (by assumption) ?_
      rotate_left 1
      · (intro w' hSw; (try dsimp only at hSw); go_simp; try with_reducible rfl)
      try simp only [Act.put, List.setIfInBounds_toArray, List.set_cons_zero, List.set_cons_succ, List.getElem_toArray, List.getElem_cons_zero, List.getElem_cons_succ]
      refine wpAnyH_take (i := 7) (v := ?_) rfl (by kernel_rfl) (by kernel_rfl) (by kernel_rfl) (fun _ _ _ h => h) (Or.inl ⟨by rfl, ?_⟩) (by assumption) ?_
      rotate_left 1
      · (intro w' hSw; (try dsimp only at hSw); go_simp; try with_reducible rfl)
      try simp only [Act.put, List.setIfInBounds_toArray, List.set_cons_zero, List.set_cons_succ, List.getElem_toArray, List.getElem_cons_zero, List.getElem_cons_succ]
      refine wpAnyH_take (i := 8) (v := .int .i64 (p : Int)) rfl (by kernel_rfl) (by kernel_rfl) (by kernel_rfl) (fun _ _ _ h => h) (Or.inl ⟨by rfl, ?_⟩) (by assumption) ?_
      · (intro w' hSw; (try dsimp only at hSw); go_simp; first | done | exact hwp)
      try simp only [Act.put, List.setIfInBounds_toArray, List.set_cons_zero, List.set_cons_succ, List.getElem_toArray, List.getElem_cons_zero, List.getElem_cons_succ]
      refine wpAnyH_take (i := 9) (v := ?_) rfl (by kernel_rfl) (by kernel_rfl) (by kernel_rfl) (fun _ _ _ h => h) (Or.inl ⟨by rfl, ?_⟩) (by assumption) ?_
      rotate_left 1
      · (intro w' hSw; (try dsimp only at hSw); go_simp; try with_reducible rfl)
      try simp only [Act.put, List.setIfInBounds_toArray, List.set_cons_zero, List.set_cons_succ, List.getElem_toArray, List.getElem_cons_zero, List.getElem_cons_succ]
      refine wpAnyH_take (i := 10) (v := ?_) rfl (by kernel_rfl) (by kernel_rfl) (by kernel_rfl) (fun _ _ _ h => h) (Or.inl ⟨by rfl, ?_⟩) (by assumption) ?_
      rotate_left 1
      · (intro w' hSw; (try dsimp only at hSw); go_simp; try with_reducible rfl)
      try simp only [Act.put, List.setIfInBounds_toArray, List.set_cons_zero, List.set_cons_succ, List.getElem_toArray, List.getElem_cons_zero, List.getElem_cons_succ]
      refine wpAnyH_take (i := 11) (v := ?_) rfl (by kernel_rfl) (by kernel_rfl) (by kernel_rfl) (fun _ _ _ h => h) (Or.inl ⟨by rfl, ?_⟩) (by assumption) ?_
      rotate_left 1
      · (intro w' hSw; (try dsimp only at hSw); go_simp; try with_reducible rfl)
      try simp only [Act.put, List.setIfInBounds_toArray, List.set_cons_zero, List.set_cons_succ, List.getElem_toArray, List.getElem_cons_zero, List.getElem_cons_succ]
      refine wpAnyH_take (i := 12) (v := ?_) rfl (by kernel_rfl) (by kernel_rfl) (by kernel_rfl) (fun _ _ _ h => h) (Or.inl ⟨by rfl, ?_⟩) (by assumption) ?_
      rotate_left 1
      · (intro w' hSw; (try dsimp only at hSw); go_simp; try with_reducible rfl)
      try simp only [Act.put, List.setIfInBounds_toArray, List.set_cons_zero, List.set_cons_succ, List.getElem_toArray, List.getElem_cons_zero, List.getElem_cons_succ]
      refine wpAnyH_take (i := 13) (v := ?_) rfl (by kernel_rfl) (by kernel_rfl) (by kernel_rfl) (fun _ _ _ h => h) (Or.inl ⟨by rfl, ?_⟩) (by assumption) ?_
      rotate_left 1
      · (intro w' hSw; (try dsimp only at hSw); go_simp; try with_reducible rfl)
      try simp only [Act.put, List.setIfInBounds_toArray, List.set_cons_zero, List.set_cons_succ, List.getElem_toArray, List.getElem_cons_zero, List.getElem_cons_succ]
      refine wpAnyH_take (i := 14) (v := ?_) rfl (by kernel_rfl) (by kernel_rfl) (by kernel_rfl) (fun _ _ _ h => h) (Or.inl ⟨by rfl, ?_⟩) (by assumption) ?_
      rotate_left 1
      · (intro w' hSw; (try dsimp only at hSw); go_simp; try with_reducible rfl)
      try simp only [Act.put, List.setIfInBounds_toArray, List.set_cons_zero, List.set_cons_succ, List.getElem_toArray, List.getElem_cons_zero, List.getElem_cons_succ]
      refine wpAnyH_ready (rs := [15]) (by kernel_rfl) (by simp) ?_
      refine AllReadyH.cons rfl (fun K hK => ?_) AllReadyH.nil
      refine stepL_callN 51 #[.tmp 24, .tmp 28] #[25, 25] (by rfl) (by rfl) #[.agg #[.int .i64 (t p).v.1, .int .i64 (t p).v.2], .agg #[.int .i64 (t q).v.1, .int .i64 (t q).v.2]] (by simp only [List.map_toArray, List.map_cons, List.map_nil] <;> rfl) (run_go Try.func51 (by kernel_rfl) (by kernel_rfl) _ _) (sSb_el (t p) (t q) _) ?_
      rintro e U1 ⟨he, kk⟩
      replace HW := hik (flKeep HW.out (KD.out.trans kk))
      replace KD := hik (Chg.refl nob U1)
      refine ⟨_, he, ?_⟩
      replace KW := hik (KW.out.trans kk)
      refine hK.out _ _ (SA.out _ KW.out) (fun hHeld => ?_)
      clear hK K
      try simp only [Act.put, List.setIfInBounds_toArray, List.set_cons_zero, List.set_cons_succ, List.getElem_toArray, List.getElem_cons_zero, List.getElem_cons_succ]
      clear he kk
      refine wpAnyH_ready (rs := [16]) (by kernel_rfl) (by simp) ?_
      refine AllReadyH.cons rfl (fun K hK => ?_) AllReadyH.nil
      refine stepL_callN 50 #[.tmp 19, .tmp 29] #[25, 25] (by rfl) (by rfl) #[.agg #[.int .i64 r.v.1, .int .i64 r.v.2], .agg #[.int .i64 (El.sb (t p) (t q)).v.1, .int .i64 (El.sb (t p) (t q)).v.2]] (by simp only [List.map_toArray, List.map_cons, List.map_nil] <;> rfl) (run_go Try.func50 (by kernel_rfl) (by kernel_rfl) _ _) (sMl_el r (El.sb (t p) (t q)) _) ?_
      rintro e U2 ⟨he, kk⟩
      replace HW := hik (flKeep HW.out (KD.out.trans kk))
      replace KD := hik (Chg.refl nob U2)
      refine ⟨_, he, ?_⟩
      replace KW := hik (KW.out.trans kk)
      refine hK.out _ _ (SA.out _ KW.out) (fun hHeld => ?_)
      clear hK K
      try simp only [Act.put, List.setIfInBounds_toArray, List.set_cons_zero, List.set_cons_succ, List.getElem_toArray, List.getElem_cons_zero, List.getElem_cons_succ]
      clear he kk
      refine wpAnyH_ready (rs := [17]) (by kernel_rfl) (by simp) ?_
      refine AllReadyH.cons rfl (fun K hK => ?_) AllReadyH.nil
      refine stepL_callN 40 #[.tmp 18, .tmp 30] #[25, 25] (by rfl) (by rfl) #[.agg #[.int .i64 (t q).v.1, .int .i64 (t q).v.2], .agg #[.int .i64 (El.ml r (El.sb (t p) (t q))).v.1, .int .i64 (El.ml r (El.sb (t p) (t q))).v.2]] (by simp only [List.map_toArray, List.map_cons, List.map_nil] <;> rfl) (run_go Try.func40 (by kernel_rfl) (by kernel_rfl) _ _) (sAd_el (t q) (El.ml r (El.sb (t p) (t q))) _) ?_
      rintro e U3 ⟨he, kk⟩
      replace HW := hik (flKeep HW.out (KD.out.trans kk))
      replace KD := hik (Chg.refl nob U3)
      refine ⟨_, he, ?_⟩
      replace KW := hik (KW.out.trans kk)
      refine hK.out _ _ (SA.out _ KW.out) (fun hHeld => ?_)
      clear hK K
      try simp only [Act.put, List.setIfInBounds_toArray, List.set_cons_zero, List.set_cons_succ, List.getElem_toArray, List.getElem_cons_zero, List.getElem_cons_succ]
      clear he kk
      refine wpAnyH_ready (rs := [18]) (by kernel_rfl) (by simp) ?_
      refine AllReadyH.cons rfl (fun K hK => ?_) AllReadyH.nil
      simp only [List.getElem_toArray, List.getElem_cons_zero, List.getElem_cons_succ]
      go_simp
      replace KW := hik (KW.out.alloc (.cells #[.int .i64 (El.ad (t q) (El.ml r (El.sb (t p) (t q)))).v.1, .int .i64 (El.ad (t q) (El.ml r (El.sb (t p) (t q)))).v.2] 25))
      refine hK.out _ _ (SA.out _ KW.out) (fun hHeld => ?_)
      clear hK K
      try simp only [Act.put, List.setIfInBounds_toArray, List.set_cons_zero, List.set_cons_succ, List.getElem_toArray, List.getElem_cons_zero, List.getElem_cons_succ]
      refine wpAnyH_ready (rs := [19]) (by kernel_rfl) (by simp) ?_
      refine AllReadyH.cons rfl (fun K hK => ?_) AllReadyH.nil
      refine step_append_lies _ (by rfl) (.tmp 14) (.tmp 32) 33 (by rfl) (w.heap.size + 1) 25 i0 (.agg #[.int .i64 0, .int .i64 0]) 2 16 Try.underlying33 HI.out HZ0.out HZ1.out HZ2.out rfl (by decide) _ k _ (by rfl) (HW.out.alloc _) ⟨_, 0, none⟩ 1 1 [.int .i64 (El.ad (t q) (El.ml r (El.sb (t p) (t q)))).v.1, .int .i64 (El.ad (t q) (El.ml r (El.sb (t p) (t q)))).v.2] (by rfl) rfl (flNews _ _ _ _) (flOne _ _) (by decide) (by unfold maxLen; omega) (by omega) (by have := KW.out.size; simp at this ⊢; omega) _ rfl ?_
      intro g6 cp6 w6 o6 hg6 hat6 hlt6
      replace KW : Hid (Chg nob (w.alloc (.cells #[.int .i64 r.v.1, .int .i64 r.v.2] 25)) w6) := hik (KW.out.grown hg6 (fun b e l => absurd (HW.out.lt b e).1 (by simp at l; omega)))
      have HO := hik o6
      clear o6 hg6 hat6 hlt6
      refine hK.out _ _ (SA.out _ KW.out) (fun hHeld => ?_)
      clear hK K
      try simp only [Act.put, List.setIfInBounds_toArray, List.set_cons_zero, List.set_cons_succ, List.getElem_toArray, List.getElem_cons_zero, List.getElem_cons_succ]
      refine wpAnyH_take (i := 20) (v := ?_) rfl (by kernel_rfl) (by kernel_rfl) (by kernel_rfl) (fun _ _ _ h => h) (Or.inl ⟨by rfl, ?_⟩) (by assumption) ?_
      rotate_left 1
      · (intro w' hSw; (try dsimp only at hSw); go_simp; try with_reducible rfl)
      try simp only [Act.put, List.setIfInBounds_toArray, List.set_cons_zero, List.set_cons_succ, List.getElem_toArray, List.getElem_cons_zero, List.getElem_cons_succ]
      refine wpAnyH_done (by kernel_rfl) ?_ _
      have HO2 : Hid (w6.ownsRow (w.heap.size + 1) 25 2 (.slice (some ⟨g6, 0, none⟩) (k + 1) cp6) (k + 1) ((List.range ((k + 1) * 2)).map (pf (cA (El.fldE t r)) (cB (El.fldE t r))))) := hik (by
        rw [← flPair]
        have eX : El.fldE t r k = (El.ad (t q) (El.ml r (El.sb (t p) (t q)))) := by rw [HP.out, HQ.out]; rfl
        have e1 : cA (El.fldE t r) k = (El.ad (t q) (El.ml r (El.sb (t p) (t q)))).v.1 := by unfold cA; rw [eX]
        have e2 : cB (El.fldE t r) k = (El.ad (t q) (El.ml r (El.sb (t p) (t q)))).v.2 := by unfold cB; rw [eX]
        rw [e1, e2]
        exact HO.out)
      clear HO HW SA hHeld x0 x1 y0 y1 r0 r1
      have KF := hik KW.out
      clear KW HG
      have hw2 : IntKind.i64.wrap ((q : Int) + 2) = ((2 * (k + 1) : Nat) : Int) := by rw [IntKind.wrap_i64]; have := HQ.out; omega
      have hlast : N - (2 * (k + 1)) < N - q := by have := HQ.out; omega
      go_wp2
      go_roundw
      case rel => exact ⟨k + 1, by omega, by first | rfl | (have := HQ.out; congr 1; omega) | go_num, HO2, KF⟩
      case measure => simp [intOf]; (try have := HQ.out); omega
    · obtain rfl : m = k := by omega
      have hNk : ¬ ((2 * m : Nat) : Int) < (N : Int) := by have := HN.out; omega
      go_wp2
      go_ret
      exact SlAns.of_owns HW.out (by omega) (((Chg.refl nob w).alloc _).trans HG.out)