/- What the program's interpolate does to a list of its own, and what its copy of a list is: contracts. Conditions: a block of the call's own, 2 to the m elements, at most 512. -/
import Derived.Test.YtagjffjdoimhbapEvlX
import Derived.Test.YtagjffjdoimhbapWrdX
import Derived.Laws.Cover3
namespace Go.Proofs.Ytagjffjdoimhbap
open Go.ChangeShapes Go.WideShapes Go.ChangeAt Go.RowKit
set_option linter.unusedVariables false
set_option maxRecDepth 100000
set_option linter.unusedSimpArgs false

theorem nbv9 {k : Nat} (h : k < 2130706433) : (El.nb k).v.1 = (k : Int) := by simp only [El.nb]; omega
theorem nbw9 (k : Nat) : (El.nb k).v.2 = 0 := rfl
theorem inv9 (j : Nat) (hj : j < 2130706433) (w : World) : Calls Try.prog 59 #[.agg #[.int .i64 (j : Int), .int .i64 0]] w fun e w' => e = .returned (.agg #[.int .i64 (El.inv (El.nb j)).v.1, .int .i64 (El.inv (El.nb j)).v.2]) ∧ Chg nob w w' := by
  have h := extInv_any (El.nb j).v.1 (El.nb j).v.2 w (El.nb j).lo1 (El.nb j).hi1 (El.nb j).lo2 (El.nb j).hi2
  have e1 : (El.inv (El.nb j)).v.1 = Fld.iA (El.nb j).v.1 (El.nb j).v.2 := rfl
  have e2 : (El.inv (El.nb j)).v.2 = Fld.iB (El.nb j).v.1 (El.nb j).v.2 := rfl
  rw [← e1, ← e2, nbv9 hj, nbw9] at h
  exact h
/-- The first k of a list times y. -/
def scE (T : Nat → El) (y : El) (k i : Nat) : El := if i < k then El.ml (T i) y else T i
theorem scE_step (T : Nat → El) (y : El) (k i : Nat) : upE (scE T y k) k (El.ml (T k) y) i = scE T y (k + 1) i := by
  unfold upE scE
  by_cases e : i = k
  · subst e; rw [if_pos rfl, if_pos (by omega)]
  · rw [if_neg e]
    by_cases h : i < k
    · rw [if_pos h, if_pos (by omega)]
    · rw [if_neg h, if_neg (by omega)]
theorem scE_at (T : Nat → El) (y : El) (k : Nat) : scE T y k k = T k := by unfold scE; rw [if_neg (by omega)]

set_option maxHeartbeats 2000000 in
theorem itp_any {m : Nat} (hm : m ≤ 9) (b N cap M : Nat) (h : Nat → Value) (T : Nat → El) (w : World) (HN : Hid (N = 2 ^ m)) (hr : Hid (RowX w b M N h T)) (hc : N ≤ cap) (hcap : (cap : Int) ≤ 9223372036854775807) :
    Calls Try.prog 32 #[.slice (some ⟨b, 0, none⟩) N cap] w fun e w' => e = .returned (.tuple #[]) ∧ RowX w' b M N h (El.bk m T (El.rtE m)) ∧ Chg (fun x => x = b) w w' := by
  have hN5 : N ≤ 512 := by rw [HN.out]; exact pow_le9 hm
  have hbw : b < w.heap.size := hr.out.lt
  go_enter Try.func32, Try.ntmps32
  go_wp2_with fail
  refine (inverseRoot_any hm N HN _).mono ?_
  rintro e W1 ⟨rfl, k1⟩
  have R1 := hik (hr.out.keep k1)
  have G1 := hik (Chg.wide (P := fun x => x = b) k1)
  clear k1 hr
  go_wp2_with fail
  refine (evl_any m 0 b 0 N cap M N h T (El.inv (El.rtE m)) _ HN.out hm rfl R1 (by omega) (by omega) hc hcap).mono ?_
  rintro e W2 ⟨rfl, r2, k2⟩
  obtain ⟨T1, hT1⟩ : ∃ T1, T1 = sgE T 0 N (El.nt m (fun i => T (0 + i)) (El.inv (El.rtE m))) := ⟨_, rfl⟩
  rw [← hT1] at r2
  have R2 := hik r2
  have HT1 := hik hT1
  have G2 := hik (G1.out.trans k2)
  clear k2 r2 R1 G1 hT1
  go_wp2_with fail
  refine (inv9 N (by omega) _).mono ?_
  rintro e W3 ⟨rfl, k3⟩
  obtain ⟨y, hy⟩ : ∃ y, y = El.inv (El.nb N) := ⟨_, rfl⟩
  rw [← hy]
  have HY := hik hy
  have hl3 : b < W3.heap.size := (R2.out.keep k3).lt
  have R3 := hik ((R2.out.keep k3).keep ((Chg.refl nob _).alloc (.cells #[.int .i64 y.v.1, .int .i64 y.v.2] 38)))
  have G3 := hik ((G2.out.trans (Chg.wide k3)).alloc (.cells #[.int .i64 y.v.1, .int .i64 y.v.2] 38))
  have Y3 := hik (ElB.new W3 y)
  have h2 := G2.out.size
  have h3 := k3.size
  clear k3 R2 G2 hy
  go_wp2
  go_loopw [15] (fun i W => ∃ k : Nat, k ≤ N ∧ i = .int .i64 k ∧ Hid (RowX W b M N h (scE T1 y k)) ∧ Hid (ElB W W3.heap.size y) ∧ Hid (Chg (fun x => x = b) w W)) (fun i _ => N - (intOf i).toNat)
  case atStart => exact ⟨0, Nat.zero_le _, rfl, hik (R3.out.congr (fun i _ => by unfold scE; rw [if_neg (by omega)])), Y3, G3⟩
  case round =>
    clear R3 Y3 G3
    obtain ⟨k, hk, rfl, RI, YI, GI⟩ := hrel
    rename World => wi
    by_cases hlt : k < N
    · have hk1 : (k : Int) < (N : Int) := by omega
      have hk0 : (0 : Int) ≤ (k : Int) := by omega
      have x0 : wi.cell? ⟨b, k * 2, none⟩ = some (.int .i64 (T1 k).v.1) := by rw [← scE_at T1 y k]; exact RI.out.c0 hlt
      have x1 : wi.cell? ⟨b, k * 2 + 1, none⟩ = some (.int .i64 (T1 k).v.2) := by rw [← scE_at T1 y k]; exact RI.out.c1 hlt
      have y0 := YI.out.c0
      have y1 := YI.out.c1
      go_wp2
      have KW := hik ((Chg.refl nob wi).drew1)
      have SA := hik (fun (WW : World) (kW : Chg nob wi WW) => (show (WW.cell? ⟨b, k * 2, none⟩ = some (.int .i64 (T1 k).v.1) ∧ WW.cell? ⟨b, k * 2 + 1, none⟩ = some (.int .i64 (T1 k).v.2) ∧ WW.cell? ⟨W3.heap.size, 0, none⟩ = some (.int .i64 y.v.1) ∧ WW.cell? ⟨W3.heap.size, 1, none⟩ = some (.int .i64 y.v.2)) from ⟨kW.see x0, kW.see x1, kW.see y0, kW.see y1⟩))
      refine wp_regionL (L := 9) (S := fun w' => w'.cell? ⟨b, k * 2, none⟩ = some (.int .i64 (T1 k).v.1) ∧ w'.cell? ⟨b, k * 2 + 1, none⟩ = some (.int .i64 (T1 k).v.2) ∧ w'.cell? ⟨W3.heap.size, 0, none⟩ = some (.int .i64 y.v.1) ∧ w'.cell? ⟨W3.heap.size, 1, none⟩ = some (.int .i64 y.v.2)) (by kernel_rfl) ⟨x0, x1, y0, y1⟩ (fun hHeld => ?_)
      refine wpAnyL_take (i := 0) (v := ?_) rfl (by kernel_rfl) (by kernel_rfl) (by kernel_rfl) (fun _ _ _ h => h) (by rfl) (by kernel_rfl) (by kernel_rfl) (Or.inl ⟨by rfl, ?_⟩) (by assumption) ?_
      rotate_left 1
      · (intro w' hSw; (try dsimp only at hSw); go_simp; try with_reducible rfl)
      try simp only [Act.put, List.setIfInBounds_toArray, List.set_cons_zero, List.set_cons_succ, List.getElem_toArray, List.getElem_cons_zero, List.getElem_cons_succ]
      refine wpAnyL_take (i := 1) (v := ?_) rfl (by kernel_rfl) (by kernel_rfl) (by kernel_rfl) (fun _ _ _ h => h) (by rfl) (by kernel_rfl) (by kernel_rfl) (Or.inl ⟨by rfl, ?_⟩) (by assumption) ?_
      rotate_left 1
      · (intro w' hSw; (try dsimp only at hSw); go_simp; try with_reducible rfl)
      try simp only [Act.put, List.setIfInBounds_toArray, List.set_cons_zero, List.set_cons_succ, List.getElem_toArray, List.getElem_cons_zero, List.getElem_cons_succ]
      refine wpAnyL_take (i := 2) (v := ?_) rfl (by kernel_rfl) (by kernel_rfl) (by kernel_rfl) (fun _ _ _ h => h) (by rfl) (by kernel_rfl) (by kernel_rfl) (Or.inl ⟨by rfl, ?_⟩) (by assumption) ?_
      rotate_left 1
      · (intro w' hSw; (try dsimp only at hSw); go_simp; try with_reducible rfl)
      try simp only [Act.put, List.setIfInBounds_toArray, List.set_cons_zero, List.set_cons_succ, List.getElem_toArray, List.getElem_cons_zero, List.getElem_cons_succ]
      refine wpAnyL_take (i := 3) (v := ?_) rfl (by kernel_rfl) (by kernel_rfl) (by kernel_rfl) (fun _ _ _ h => h) (by rfl) (by kernel_rfl) (by kernel_rfl) (Or.inl ⟨by rfl, ?_⟩) (by assumption) ?_
      rotate_left 1
      · (intro w' hSw; (try dsimp only at hSw); go_simp; try with_reducible rfl)
      try simp only [Act.put, List.setIfInBounds_toArray, List.set_cons_zero, List.set_cons_succ, List.getElem_toArray, List.getElem_cons_zero, List.getElem_cons_succ]
      refine wpAnyL_take (i := 4) (v := ?_) rfl (by kernel_rfl) (by kernel_rfl) (by kernel_rfl) (fun _ _ _ h => h) (by rfl) (by kernel_rfl) (by kernel_rfl) (Or.inl ⟨by rfl, ?_⟩) (by assumption) ?_
      rotate_left 1
      · (intro w' hSw; (try dsimp only at hSw); go_simp; try with_reducible rfl)
      try simp only [Act.put, List.setIfInBounds_toArray, List.set_cons_zero, List.set_cons_succ, List.getElem_toArray, List.getElem_cons_zero, List.getElem_cons_succ]
      refine wpAnyL_take (i := 5) (v := ?_) rfl (by kernel_rfl) (by kernel_rfl) (by kernel_rfl) (fun _ _ _ h => h) (by rfl) (by kernel_rfl) (by kernel_rfl) (Or.inl ⟨by rfl, ?_⟩) (by assumption) ?_
      rotate_left 1
      · (intro w' hSw; (try dsimp only at hSw); go_simp; try with_reducible rfl)
      try simp only [Act.put, List.setIfInBounds_toArray, List.set_cons_zero, List.set_cons_succ, List.getElem_toArray, List.getElem_cons_zero, List.getElem_cons_succ]
      refine wpAnyL_take (i := 6) (v := ?_) rfl (by kernel_rfl) (by kernel_rfl) (by kernel_rfl) (fun _ _ _ h => h) (by rfl) (by kernel_rfl) (by kernel_rfl) (Or.inl ⟨by rfl, ?_⟩) (by assumption) ?_
      rotate_left 1
      · (intro w' hSw; (try dsimp only at hSw); go_simp; try with_reducible rfl)
      try simp only [Act.put, List.setIfInBounds_toArray, List.set_cons_zero, List.set_cons_succ, List.getElem_toArray, List.getElem_cons_zero, List.getElem_cons_succ]
      refine wpAnyL_ready (rs := [7]) (by kernel_rfl) (by simp) ?_
      refine AllReadyL.cons rfl (fun K hK => ?_) AllReadyL.nil
      refine stepL_callN 44 #[.tmp 23, .tmp 24] #[38, 38] (by rfl) (by rfl) #[.agg #[.int .i64 (T1 k).v.1, .int .i64 (T1 k).v.2], .agg #[.int .i64 y.v.1, .int .i64 y.v.2]] (by simp only [List.map_toArray, List.map_cons, List.map_nil] <;> rfl) (run_go Try.func44 (by kernel_rfl) (by kernel_rfl) _ _) (ml_el (T1 k) y _) ?_
      rintro e U1 ⟨he, kk⟩
      refine ⟨_, he, ?_⟩
      replace KW := hik (KW.out.trans kk)
      refine hK.out _ _ (SA.out _ KW.out) (fun hHeld => ?_)
      clear hK K
      try simp only [Act.put, List.setIfInBounds_toArray, List.set_cons_zero, List.set_cons_succ, List.getElem_toArray, List.getElem_cons_zero, List.getElem_cons_succ]
      clear he kk
      refine wpAnyL_take (i := 8) (v := ?_) rfl (by kernel_rfl) (by kernel_rfl) (by kernel_rfl) (fun _ _ _ h => h) (by rfl) (by kernel_rfl) (by kernel_rfl) (Or.inl ⟨by rfl, ?_⟩) (by assumption) ?_
      rotate_left 1
      · (intro w' hSw; (try dsimp only at hSw); go_simp; try with_reducible rfl)
      try simp only [Act.put, List.setIfInBounds_toArray, List.set_cons_zero, List.set_cons_succ, List.getElem_toArray, List.getElem_cons_zero, List.getElem_cons_succ]
      refine wpAnyL_ready (rs := [9]) (by kernel_rfl) (by simp) ?_
      refine AllReadyL.last rfl (by kernel_rfl) (fun K hK => ?_)
      have RN := hik (RI.out.keep KW.out)
      have g0 := RN.out.c0 hlt
      have g1 := RN.out.c1 hlt
      have f0 := RN.out.fz (k * 2)
      have f1 := RN.out.fz (k * 2 + 1)
      have ln : b < U1.heap.size := RN.out.lt
      simp only [List.getElem_toArray, List.getElem_cons_zero, List.getElem_cons_succ]
      go_simp
      refine hK.out _ _ ?_
      clear hK K
      try simp only [Act.put, List.setIfInBounds_toArray, List.set_cons_zero, List.set_cons_succ, List.getElem_toArray, List.getElem_cons_zero, List.getElem_cons_succ]
      clear g0 g1 f0 f1 ln
      refine wpAnyL_done (by kernel_rfl) ?_ _
      have R2 := hik (RowX.congr (U := scE T1 y (k + 1)) (RN.out.set hlt (El.ml (T1 k) y)) (fun i _ => scE_step T1 y k i))
      have Y2 := hik ((YI.out.keep KW.out).other (g := b) (by omega) (k * 2) (k * 2 + 1) (.int .i64 (El.ml (T1 k) y).v.1) (.int .i64 (El.ml (T1 k) y).v.2))
      have G2 := hik (Chg.one (GI.out.trans (Chg.wide KW.out)) b (fun _ => rfl) (k * 2) (k * 2 + 1) (.int .i64 (El.ml (T1 k) y).v.1) (.int .i64 (El.ml (T1 k) y).v.2))
      generalize hE : ((U1.setCell ⟨b, k * 2, none⟩ (.int .i64 (El.ml (T1 k) y).v.1)).setCell ⟨b, k * 2 + 1, none⟩ (.int .i64 (El.ml (T1 k) y).v.2)) = W5 at R2 Y2 G2 ⊢
      clear hE RN KW SA hHeld x0 x1 y0 y1 RI YI GI
      go_wp2
      go_roundw
      case rel => exact ⟨k + 1, by omega, by go_num, R2, Y2, G2⟩
      case measure => simp [intOf]; omega
    · obtain rfl : k = N := by omega
      go_wp2
      exact bodyPost_end (results_none rfl _ _ _) rfl ⟨rfl, RI.out.congr (fun i hi => by
        unfold scE El.bk
        have e := sgE_in (T := T) (o := 0) (u := El.nt m (fun i => T (0 + i)) (El.inv (El.rtE m))) hi
        rw [Nat.zero_add] at e
        rw [if_pos hi, HT1.out, e, HY.out, ← HN.out, El.nt_congr m (d := T) (El.inv (El.rtE m)) (fun i _ => by rw [Nat.zero_add]) i]), GI.out⟩

set_option maxHeartbeats 1000000 in
theorem clone9_any (c : Option Addr) (n cap : Nat) (t : Nat → El) (w : World) (h : Hid (PairE w c n t)) (hn1 : 1 ≤ n) (hn : n ≤ 4096) : Calls Try.prog 31 #[.slice c n cap] w fun e w' => SlAns w n t e w' := by
  obtain ⟨b, o, ec, _, _, _⟩ := PairE.at_ h.out (show 0 < n by omega)
  subst ec
  obtain ⟨i0, hi, hz0, hz1, hz2⟩ := info_parts infoExt
  have HI := hik hi
  have HZ0 := hik hz0
  have HZ1 := hik hz1
  have HZ2 := hik hz2
  clear hi hz0 hz1 hz2
  have hnil : ∀ W, (binOp .eql 24 (.slice (some ⟨b, o, none⟩) n cap) (.slice none 0 0)).run Try.prog W = .ok (.bool false) W := fun W => by
    have := run_equal_slice_nil (P := Try.prog) W 24 38 (some ⟨b, o, none⟩) n cap Try.underlying24
    simp [binOp, this]
  go_enter Try.func31, Try.ntmps31
  go_wp2_with (at_builtin; refine wpList_append_pairs _ (.tmp 5) (.tmp 6) 24 rfl rfl i0 Try.underlying24 HI.out HZ0.out HZ1.out HZ2.out w.heap.size (by simp) rfl (some ⟨b, o, none⟩) n cap (cA t) (cB t) rfl (PairE.keep h.out ((Chg.refl nob w).alloc _)) (by omega) ?_)
  intro c' cap' W1 ho hc hcm k1
  have O1 := hik (OwnE.low ho (B' := w.heap.size) (by simp))
  have G1 := hik (((Chg.refl nob w).alloc _).trans k1)
  clear ho k1
  go_wp2
  go_ret
  exact ⟨c', cap', rfl, hc, hcm, O1.out, G1.out⟩
end Go.Proofs.Ytagjffjdoimhbap
