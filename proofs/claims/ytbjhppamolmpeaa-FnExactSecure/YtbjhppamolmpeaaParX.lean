/- The program's bits of a setting: contracts. Conditions: a right setting. -/
import Derived.Test.YtbjhppamolmpeaaSetW
import Derived.Test.YtbjhppamolmpeaaParM
import Derived.Test.YtbjhppamolmpeaaRowN
import Derived.Test.YtbjhppamolmpeaaRegL
import Derived.Deep.RegionHeld3
namespace Go.Proofs.Ytbjhppamolmpeaa
open Go.ChangeShapes Go.WideShapes Go.ChangeAt Go.RowKit
set_option linter.unusedVariables false
set_option maxRecDepth 100000
set_option linter.unusedSimpArgs false

set_option maxHeartbeats 2000000 in
theorem qbClo_any (r q b : Nat) (r0 : 1 ≤ r) (r1 : r < 4) (q0 : 1 ≤ q) (q1 : q < 9) (hb : b < 8) (b1 b2 : Nat) (w : World) (h1 : w.cell? ⟨b1, 0, none⟩ = some (.int .u64 (lsN r q : Int))) (h2 : w.cell? ⟨b2, 0, none⟩ = some (.int .u64 (mrN r q : Int))) :
    Calls Try.prog 67 #[.int .u64 (b : Int), .pointer (some ⟨b1, 0, none⟩), .pointer (some ⟨b2, 0, none⟩)] w fun e w' => e = .returned (.bool (decide (qbN r q ≤ b))) ∧ w' = w := by
  have HQ := hik (qb_more r r1 r0 q q1 q0 b (by omega))
  obtain ⟨s1, s2, _⟩ := qb_size r r1 r0 q q1
  generalize lsN r q = L at h1 HQ s1
  generalize mrN r q = M at h2 HQ s2
  rw [← HQ.out]
  clear HQ
  have hK : (b = 0 ∨ b = 1 ∨ b = 2 ∨ b = 3 ∨ b = 4 ∨ b = 5 ∨ b = 6 ∨ b = 7) := by omega
  rcases hK with rfl | rfl | rfl | rfl | rfl | rfl | rfl | rfl <;>
  · go_enter Try.func67, Try.ntmps67
    go_wp2
    go_ret
    exact ⟨ret_bool (by rw [decide_eq_decide]; omega), rfl⟩

set_option maxHeartbeats 2000000 in
theorem leastU_any (r q : Nat) (r0 : 1 ≤ r) (r1 : r < 4) (q0 : 1 ≤ q) (q1 : q < 9) (b1 b2 : Nat) (w : World) (h1 : w.cell? ⟨b1, 0, none⟩ = some (.int .u64 (lsN r q : Int))) (h2 : w.cell? ⟨b2, 0, none⟩ = some (.int .u64 (mrN r q : Int))) :
    Calls Try.prog 66 #[.int .u64 0, .int .u64 (q : Int), .func (.func 67) #[] #[.pointer (some ⟨b1, 0, none⟩), .pointer (some ⟨b2, 0, none⟩)]] w fun e w' => e = .returned (.int .u64 (qbN r q : Int)) ∧ w' = w := by
  have HC := hik (fun b (hb : b < 8) => qbClo_any r q b r0 r1 q0 q1 hb b1 b2 w h1 h2)
  have hq := qb_lt r r1 r0 q q1 q0
  generalize qbN r q = K at HC hq ⊢
  clear h1 h2
  go_enter Try.func66, Try.ntmps66
  go_wp2
  go_loop [0, 1] (fun lo hi => ∃ l h : Nat, lo = .int .u64 (l : Int) ∧ hi = .int .u64 (h : Int) ∧ l ≤ K ∧ K ≤ h ∧ h ≤ q) (fun lo hi => (intOf hi).toNat - (intOf lo).toNat)
  case atStart => exact ⟨0, q, rfl, rfl, by omega, by omega, by omega⟩
  case round =>
    obtain ⟨l, h, rfl, rfl, hl, hh, hq2⟩ := hrel
    by_cases hlt : (l : Int) < (h : Int)
    · go_wp2_with fail
      obtain ⟨m, hm⟩ : ∃ m : Nat, (l : Int) + ((h : Int) - (l : Int)) / 2 = (m : Int) := ⟨l + (h - l) / 2, by omega⟩
      rw [hm]
      refine (HC.out m (by omega)).mono ?_
      rintro e w2 ⟨rfl, hw⟩
      have hw := hw.symm
      subst hw
      by_cases hd : K ≤ m
      · rw [decide_eq_true hd]
        go_wp2
        go_round
        case rel => exact ⟨l, m, rfl, rfl, by omega, by omega, by omega⟩
        case measure => simp [intOf]; omega
      · rw [decide_eq_false hd]
        go_wp2
        go_round
        case rel => exact ⟨m + 1, h, by go_num, rfl, by omega, by omega, by omega⟩
        case measure => simp [intOf]; omega
    · obtain rfl : l = K := by omega
      go_wp2
      go_ret
      exact ⟨rfl, rfl⟩

set_option maxHeartbeats 4000000 in
theorem queryBits_any (r q : Nat) (g : Int) (r0 : 1 ≤ r) (r1 : r < 4) (q0 : 1 ≤ q) (q1 : q < 9) (w : World) :
    Calls Try.prog 48 #[.agg #[.int .i64 (r : Int), .int .i64 (q : Int), .int .i64 g]] w fun e w' => e = .returned (.int .i64 (qbN r q : Int)) ∧ Chg nob w w' := by
  have K0 := hik ((((Chg.refl nob w).alloc (.cells #[.int .i64 (r : Int), .int .i64 (q : Int), .int .i64 g] 26)).alloc (.cells #[.int .u64 1] 81)).alloc (.cells #[.int .u64 1] 81))
  have RS := hik (rowIs_keep (rowN_new w 3 #[.int .i64 (r : Int), .int .i64 (q : Int), .int .i64 g] 26 rfl) (((Chg.refl nob _).alloc (.cells #[.int .u64 1] 81)).alloc (.cells #[.int .u64 1] 81)))
  have RL := hik (rowIs_keep (rowN_new (w.alloc (.cells #[.int .i64 (r : Int), .int .i64 (q : Int), .int .i64 g] 26)) 1 #[.int .u64 1] 81 rfl) ((Chg.refl nob _).alloc (.cells #[.int .u64 1] 81)))
  have RM := hik (rowN_new ((w.alloc (.cells #[.int .i64 (r : Int), .int .i64 (q : Int), .int .i64 g] 26)).alloc (.cells #[.int .u64 1] 81)) 1 #[.int .u64 1] 81 rfl)
  rw [asz] at RL
  rw [asz, asz] at RM
  have hr : r = 1 ∨ r = 2 ∨ r = 3 := by omega
  go_enter Try.func48, Try.ntmps48
  go_wp2
  generalize hW : ((w.alloc (.cells #[.int .i64 (r : Int), .int .i64 (q : Int), .int .i64 g] 26)).alloc (.cells #[.int .u64 1] 81)).alloc (.cells #[.int .u64 1] 81) = W0 at K0 RS RL RM ⊢
  clear hW
  go_loopw [8] (fun i W => ∃ k : Nat, k ≤ q ∧ i = .int .i64 (k : Int) ∧ Hid (W.rowIs (w.heap.size + 1) 81 1 (fun _ => .int .u64 (lsN r k : Int))) ∧ Hid (W.rowIs (w.heap.size + 1 + 1) 81 1 (fun _ => .int .u64 (mrN r k : Int))) ∧ Hid (W.rowIs w.heap.size 26 3 (fun i => (#[.int .i64 (r : Int), .int .i64 (q : Int), .int .i64 g] : Array Value).getD i undef)) ∧ Hid (Chg nob w W)) (fun i _ => q - (intOf i).toNat)
  case atStart => exact ⟨0, Nat.zero_le _, rfl, hik (RL.out.congr (fun i hi => by obtain rfl : i = 0 := (by omega); rw [lsN_0]; rfl)), hik (RM.out.congr (fun i hi => by obtain rfl : i = 0 := (by omega); rw [mrN_0]; rfl)), RS, K0⟩
  case round =>
    clear RL RM RS K0
    obtain ⟨k, hk, rfl, HL, HM, RS, K0⟩ := hrel
    rename World => wi
    have x0 : wi.cell? ⟨w.heap.size, 0, none⟩ = some (.int .i64 (r : Int)) := RS.out.cell (i := 0) (by omega)
    have x1 : wi.cell? ⟨w.heap.size, 1, none⟩ = some (.int .i64 (q : Int)) := RS.out.cell (i := 1) (by omega)
    have y0 : wi.cell? ⟨w.heap.size + 1, 0, none⟩ = some (.int .u64 (lsN r k : Int)) := HL.out.cell (i := 0) (by omega)
    have z0 : wi.cell? ⟨w.heap.size + 1 + 1, 0, none⟩ = some (.int .u64 (mrN r k : Int)) := HM.out.cell (i := 0) (by omega)
    by_cases hlt : (k : Int) < (q : Int)
    · go_wp2
      have hk9 : k + 1 < 9 := by omega
      obtain ⟨b1, b2, _⟩ := qb_size r r1 r0 (k + 1) hk9
      obtain ⟨b3, b4, _⟩ := qb_size r r1 r0 k (by omega)
      have m1 : (lsN r k : Int) * ((tw r : Int) + 1) = (lsN r (k + 1) : Int) := by rw [lsN_s]; push_cast; rfl
      have m2 : (mrN r k : Int) * (tw (r + 1) : Int) = (mrN r (k + 1) : Int) := by rw [mrN_s]; push_cast; rfl
      have tb : tw r ≤ 8 ∧ tw (r + 1) ≤ 16 := by rcases hr with rfl | rfl | rfl <;> decide
      obtain ⟨t1, t2⟩ := tb
      have KW := hik ((Chg.refl nob wi).drew1)
      have SA := hik (fun (WW : World) (kW : Chg nob wi WW) => (show (WW.cell? ⟨w.heap.size, 0, none⟩ = some (.int .i64 (r : Int)) ∧ WW.cell? ⟨w.heap.size + 1, 0, none⟩ = some (.int .u64 (lsN r k : Int))) from ⟨kW.see x0, kW.see y0⟩))
      refine wp_regionL (L := 6) (S := fun w' => w'.cell? ⟨w.heap.size, 0, none⟩ = some (.int .i64 (r : Int)) ∧ w'.cell? ⟨w.heap.size + 1, 0, none⟩ = some (.int .u64 (lsN r k : Int))) (by kernel_rfl) ⟨x0, y0⟩ (fun hHeld => ?_)
      refine wpAnyL_take (i := 0) (v := ?_) rfl (by kernel_rfl) (by kernel_rfl) (by kernel_rfl) (fun _ _ _ h => h) (by rfl) (by kernel_rfl) (by kernel_rfl) (Or.inl ⟨by rfl, ?_⟩) (by assumption) ?_
      rotate_left 1
      · (intro w' hSw; (try dsimp only at hSw); go_simp; try with_reducible rfl)
      try simp only [Act.put, List.setIfInBounds_toArray, List.set_cons_zero, List.set_cons_succ, List.getElem_toArray, List.getElem_cons_zero, List.getElem_cons_succ]
      refine wpAnyL_take (i := 1) (v := ?_) rfl (by kernel_rfl) (by kernel_rfl) (by kernel_rfl) (fun _ _ _ h => h) (by rfl) (by kernel_rfl) (by kernel_rfl) (Or.inl ⟨by rfl, ?_⟩) (by assumption) ?_
      rotate_left 1
      · (intro w' hSw; (try dsimp only at hSw); go_simp; try with_reducible rfl)
      try simp only [Act.put, List.setIfInBounds_toArray, List.set_cons_zero, List.set_cons_succ, List.getElem_toArray, List.getElem_cons_zero, List.getElem_cons_succ]
      refine wpAnyL_take (i := 2) (v := ?_) rfl (by kernel_rfl) (by kernel_rfl) (by kernel_rfl) (fun _ _ _ h => h) (by rfl) (by kernel_rfl) (by kernel_rfl) (Or.inl ⟨by rfl, ?_⟩) (by assumption) ?_
      rotate_left 1
      · (intro w' hSw; (try dsimp only at hSw); go_simp; try with_reducible rfl)
      try simp only [Act.put, List.setIfInBounds_toArray, List.set_cons_zero, List.set_cons_succ, List.getElem_toArray, List.getElem_cons_zero, List.getElem_cons_succ]
      refine wpAnyL_take (i := 3) (v := .int .u64 (tw r : Int)) rfl (by kernel_rfl) (by kernel_rfl) (by kernel_rfl) (fun _ _ _ h => h) (by rfl) (by kernel_rfl) (by kernel_rfl) (Or.inl ⟨by rfl, ?_⟩) (by assumption) ?_
      · (intro w' hSw; (try dsimp only at hSw); go_simp; rcases hr with rfl | rfl | rfl <;> first | rfl | decide | simp [tw])
      try simp only [Act.put, List.setIfInBounds_toArray, List.set_cons_zero, List.set_cons_succ, List.getElem_toArray, List.getElem_cons_zero, List.getElem_cons_succ]
      refine wpAnyL_take (i := 4) (v := ?_) rfl (by kernel_rfl) (by kernel_rfl) (by kernel_rfl) (fun _ _ _ h => h) (by rfl) (by kernel_rfl) (by kernel_rfl) (Or.inl ⟨by rfl, ?_⟩) (by assumption) ?_
      rotate_left 1
      · (intro w' hSw; (try dsimp only at hSw); go_simp; try with_reducible rfl)
      try simp only [Act.put, List.setIfInBounds_toArray, List.set_cons_zero, List.set_cons_succ, List.getElem_toArray, List.getElem_cons_zero, List.getElem_cons_succ]
      refine wpAnyL_take (i := 5) (v := .int .u64 (lsN r (k + 1) : Int)) rfl (by kernel_rfl) (by kernel_rfl) (by kernel_rfl) (fun _ _ _ h => h) (by rfl) (by kernel_rfl) (by kernel_rfl) (Or.inl ⟨by rfl, ?_⟩) (by assumption) ?_
      · (intro w' hSw; (try dsimp only at hSw); go_simp; first | done | (rw [show IntKind.u64.wrap ((tw r : Int) + 1) = (tw r : Int) + 1 by (rw [IntKind.wrap_u64]; omega), m1, IntKind.wrap_u64]; omega))
      try simp only [Act.put, List.setIfInBounds_toArray, List.set_cons_zero, List.set_cons_succ, List.getElem_toArray, List.getElem_cons_zero, List.getElem_cons_succ]
      refine wpAnyL_ready (rs := [6]) (by kernel_rfl) (by simp) ?_
      refine AllReadyL.last rfl (by kernel_rfl) (fun K hK => ?_)
      have g0 := (rowIs_keep HL.out KW.out).cell (i := 0) (show 0 < 1 by omega)
      have f0 := (rowIs_keep HL.out KW.out).frozen 0
      have ln := (rowIs_keep HL.out KW.out).lt
      simp only [List.getElem_toArray, List.getElem_cons_zero, List.getElem_cons_succ]
      go_simp
      refine hK.out _ _ ?_
      clear hK K
      try simp only [Act.put, List.setIfInBounds_toArray, List.set_cons_zero, List.set_cons_succ, List.getElem_toArray, List.getElem_cons_zero, List.getElem_cons_succ]
      clear g0 f0 ln
      refine wpAnyL_done (by kernel_rfl) ?_ _
      have N1 := hik (((rowIs_keep HL.out KW.out).set 0 (.int .u64 (lsN r (k + 1) : Int))).congr (g := fun _ => .int .u64 (lsN r (k + 1) : Int)) (fun i hi => by obtain rfl : i = 0 := (by omega); rfl))
      have C1 := hik ((Chg.refl (fun b => b = w.heap.size + 1) wi.drew).setCell (p := ⟨w.heap.size + 1, 0, none⟩) (fun _ => rfl) (.int .u64 (lsN r (k + 1) : Int)))
      have N2 := hik (rowIs_chg (rowIs_keep HM.out KW.out) C1.out (by omega))
      have N3 := hik (rowIs_chg (rowIs_keep RS.out KW.out) C1.out (by omega))
      have N4 := hik ((K0.out.trans KW.out).near C1.out (fun i q => by omega))
      have N1 : Hid (World.rowIs ((wi.setCell ⟨w.heap.size + 1, 0, none⟩ (.int .u64 (lsN r (k + 1) : Int))).drew) (w.heap.size + 1) 81 1 (fun _ => .int .u64 (lsN r (k + 1) : Int))) := N1
      have N2 : Hid (World.rowIs ((wi.setCell ⟨w.heap.size + 1, 0, none⟩ (.int .u64 (lsN r (k + 1) : Int))).drew) (w.heap.size + 1 + 1) 81 1 (fun _ => .int .u64 (mrN r k : Int))) := N2
      have N3 : Hid (World.rowIs ((wi.setCell ⟨w.heap.size + 1, 0, none⟩ (.int .u64 (lsN r (k + 1) : Int))).drew) w.heap.size 26 3 (fun i => (#[.int .i64 (r : Int), .int .i64 (q : Int), .int .i64 g] : Array Value).getD i undef)) := N3
      have N4 : Hid (Chg nob w ((wi.setCell ⟨w.heap.size + 1, 0, none⟩ (.int .u64 (lsN r (k + 1) : Int))).drew)) := N4
      generalize hE : ((wi.setCell ⟨w.heap.size + 1, 0, none⟩ (.int .u64 (lsN r (k + 1) : Int))).drew) = W2 at N1 N2 N3 N4 ⊢
      clear hE C1 KW SA hHeld
      replace HL := N1
      replace HM := N2
      replace RS := N3
      replace K0 := N4
      clear x0 x1 y0 z0
      have x0 : W2.cell? ⟨w.heap.size, 0, none⟩ = some (.int .i64 (r : Int)) := RS.out.cell (i := 0) (by omega)
      have z0 : W2.cell? ⟨w.heap.size + 1 + 1, 0, none⟩ = some (.int .u64 (mrN r k : Int)) := HM.out.cell (i := 0) (by omega)
      go_wp2
      have KW := hik ((Chg.refl nob W2).drew1)
      have SA := hik (fun (WW : World) (kW : Chg nob W2 WW) => (show (WW.cell? ⟨w.heap.size, 0, none⟩ = some (.int .i64 (r : Int)) ∧ WW.cell? ⟨w.heap.size + 1 + 1, 0, none⟩ = some (.int .u64 (mrN r k : Int))) from ⟨kW.see x0, kW.see z0⟩))
      refine wp_regionL (L := 6) (S := fun w' => w'.cell? ⟨w.heap.size, 0, none⟩ = some (.int .i64 (r : Int)) ∧ w'.cell? ⟨w.heap.size + 1 + 1, 0, none⟩ = some (.int .u64 (mrN r k : Int))) (by kernel_rfl) ⟨x0, z0⟩ (fun hHeld => ?_)
      refine wpAnyL_take (i := 0) (v := ?_) rfl (by kernel_rfl) (by kernel_rfl) (by kernel_rfl) (fun _ _ _ h => h) (by rfl) (by kernel_rfl) (by kernel_rfl) (Or.inl ⟨by rfl, ?_⟩) (by assumption) ?_
      rotate_left 1
      · (intro w' hSw; (try dsimp only at hSw); go_simp; try with_reducible rfl)
      try simp only [Act.put, List.setIfInBounds_toArray, List.set_cons_zero, List.set_cons_succ, List.getElem_toArray, List.getElem_cons_zero, List.getElem_cons_succ]
      refine wpAnyL_take (i := 1) (v := ?_) rfl (by kernel_rfl) (by kernel_rfl) (by kernel_rfl) (fun _ _ _ h => h) (by rfl) (by kernel_rfl) (by kernel_rfl) (Or.inl ⟨by rfl, ?_⟩) (by assumption) ?_
      rotate_left 1
      · (intro w' hSw; (try dsimp only at hSw); go_simp; try with_reducible rfl)
      try simp only [Act.put, List.setIfInBounds_toArray, List.set_cons_zero, List.set_cons_succ, List.getElem_toArray, List.getElem_cons_zero, List.getElem_cons_succ]
      refine wpAnyL_take (i := 2) (v := ?_) rfl (by kernel_rfl) (by kernel_rfl) (by kernel_rfl) (fun _ _ _ h => h) (by rfl) (by kernel_rfl) (by kernel_rfl) (Or.inl ⟨by rfl, ?_⟩) (by assumption) ?_
      rotate_left 1
      · (intro w' hSw; (try dsimp only at hSw); go_simp; try with_reducible rfl)
      try simp only [Act.put, List.setIfInBounds_toArray, List.set_cons_zero, List.set_cons_succ, List.getElem_toArray, List.getElem_cons_zero, List.getElem_cons_succ]
      refine wpAnyL_take (i := 3) (v := ?_) rfl (by kernel_rfl) (by kernel_rfl) (by kernel_rfl) (fun _ _ _ h => h) (by rfl) (by kernel_rfl) (by kernel_rfl) (Or.inl ⟨by rfl, ?_⟩) (by assumption) ?_
      rotate_left 1
      · (intro w' hSw; (try dsimp only at hSw); go_simp; try with_reducible rfl)
      try simp only [Act.put, List.setIfInBounds_toArray, List.set_cons_zero, List.set_cons_succ, List.getElem_toArray, List.getElem_cons_zero, List.getElem_cons_succ]
      refine wpAnyL_take (i := 4) (v := .int .u64 (tw (r + 1) : Int)) rfl (by kernel_rfl) (by kernel_rfl) (by kernel_rfl) (fun _ _ _ h => h) (by rfl) (by kernel_rfl) (by kernel_rfl) (Or.inl ⟨by rfl, ?_⟩) (by assumption) ?_
      · (intro w' hSw; (try dsimp only at hSw); go_simp; rcases hr with rfl | rfl | rfl <;> first | rfl | decide | simp [tw])
      try simp only [Act.put, List.setIfInBounds_toArray, List.set_cons_zero, List.set_cons_succ, List.getElem_toArray, List.getElem_cons_zero, List.getElem_cons_succ]
      refine wpAnyL_take (i := 5) (v := .int .u64 (mrN r (k + 1) : Int)) rfl (by kernel_rfl) (by kernel_rfl) (by kernel_rfl) (fun _ _ _ h => h) (by rfl) (by kernel_rfl) (by kernel_rfl) (Or.inl ⟨by rfl, ?_⟩) (by assumption) ?_
      · (intro w' hSw; (try dsimp only at hSw); go_simp; first | done | (rw [m2, IntKind.wrap_u64]; omega) | (rw [IntKind.wrap_u64]; omega))
      try simp only [Act.put, List.setIfInBounds_toArray, List.set_cons_zero, List.set_cons_succ, List.getElem_toArray, List.getElem_cons_zero, List.getElem_cons_succ]
      refine wpAnyL_ready (rs := [6]) (by kernel_rfl) (by simp) ?_
      refine AllReadyL.last rfl (by kernel_rfl) (fun K hK => ?_)
      have g0 := (rowIs_keep HM.out KW.out).cell (i := 0) (show 0 < 1 by omega)
      have f0 := (rowIs_keep HM.out KW.out).frozen 0
      have ln := (rowIs_keep HM.out KW.out).lt
      simp only [List.getElem_toArray, List.getElem_cons_zero, List.getElem_cons_succ]
      go_simp
      refine hK.out _ _ ?_
      clear hK K
      try simp only [Act.put, List.setIfInBounds_toArray, List.set_cons_zero, List.set_cons_succ, List.getElem_toArray, List.getElem_cons_zero, List.getElem_cons_succ]
      clear g0 f0 ln
      refine wpAnyL_done (by kernel_rfl) ?_ _
      have N1 := hik (((rowIs_keep HM.out KW.out).set 0 (.int .u64 (mrN r (k + 1) : Int))).congr (g := fun _ => .int .u64 (mrN r (k + 1) : Int)) (fun i hi => by obtain rfl : i = 0 := (by omega); rfl))
      have C1 := hik ((Chg.refl (fun b => b = w.heap.size + 1 + 1) W2.drew).setCell (p := ⟨w.heap.size + 1 + 1, 0, none⟩) (fun _ => rfl) (.int .u64 (mrN r (k + 1) : Int)))
      have N2 := hik (rowIs_chg (rowIs_keep HL.out KW.out) C1.out (by omega))
      have N3 := hik (rowIs_chg (rowIs_keep RS.out KW.out) C1.out (by omega))
      have N4 := hik ((K0.out.trans KW.out).near C1.out (fun i q => by omega))
      have N1 : Hid (World.rowIs ((W2.setCell ⟨w.heap.size + 1 + 1, 0, none⟩ (.int .u64 (mrN r (k + 1) : Int))).drew) (w.heap.size + 1 + 1) 81 1 (fun _ => .int .u64 (mrN r (k + 1) : Int))) := N1
      have N2 : Hid (World.rowIs ((W2.setCell ⟨w.heap.size + 1 + 1, 0, none⟩ (.int .u64 (mrN r (k + 1) : Int))).drew) (w.heap.size + 1) 81 1 (fun _ => .int .u64 (lsN r (k + 1) : Int))) := N2
      have N3 : Hid (World.rowIs ((W2.setCell ⟨w.heap.size + 1 + 1, 0, none⟩ (.int .u64 (mrN r (k + 1) : Int))).drew) w.heap.size 26 3 (fun i => (#[.int .i64 (r : Int), .int .i64 (q : Int), .int .i64 g] : Array Value).getD i undef)) := N3
      have N4 : Hid (Chg nob w ((W2.setCell ⟨w.heap.size + 1 + 1, 0, none⟩ (.int .u64 (mrN r (k + 1) : Int))).drew)) := N4
      generalize hE : ((W2.setCell ⟨w.heap.size + 1 + 1, 0, none⟩ (.int .u64 (mrN r (k + 1) : Int))).drew) = W3 at N1 N2 N3 N4 ⊢
      clear hE C1 KW SA hHeld
      replace HM := N1
      replace HL := N2
      replace RS := N3
      replace K0 := N4
      clear x0 z0 m1 m2 b1 b2 b3 b4 t1 t2
      go_wp2
      go_roundw
      case rel => exact ⟨k + 1, by omega, by go_num, HL, HM, RS, K0⟩
      case measure => simp [intOf]; omega
    · obtain rfl : k = q := by omega
      go_wp2_with fail
      refine (leastU_any r k r0 r1 q0 q1 _ _ _ y0 z0).mono ?_
      rintro e w2 ⟨rfl, hw⟩
      have hw := hw.symm
      subst hw
      have hq := qb_lt r r1 r0 k q1 q0
      go_wp2
      go_ret
      exact ⟨rfl, K0.out⟩
end Go.Proofs.Ytbjhppamolmpeaa
