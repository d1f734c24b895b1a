/- The program's sums of rows: contracts. -/
import Derived.Test.YtjaopbaapldceaaBzap
import Derived.Test.YtjaopbaapldceaaBzas
import Derived.IntWalk
import Derived.Deep.DeepCutAuto
import Derived.Test.YtjaopbaapldceaaRegL
import Derived.Test.YtjaopbaapldceaaBzat
namespace Go.Proofs.Ytjaopbaapldceaa
open Go.ChangeShapes Go.WideShapes Go.ChangeAt Go.RowKit
set_option linter.unusedVariables false
set_option maxRecDepth 100000
set_option linter.unusedSimpArgs false

set_option maxHeartbeats 1000000 in
theorem fieldOK_f (x : Int) (w : World) : Calls Try.prog 29 #[.int .i64 x] w fun e w' => e = .returned (.bool (fdb x)) ∧ w' = w := by
  have H := hik (show fdb x = (decide (0 ≤ x) && decide (x < 2130706433)) by simp [fdb])
  by_cases h0 : 0 ≤ x
  · go_enter Try.func29, Try.ntmps29
    go_wp2
    go_ret
    exact ⟨ret_bool (by rw [H.out]; simp [h0]), rfl⟩
  · go_enter Try.func29, Try.ntmps29
    go_wp2
    go_ret
    exact ⟨ret_bool (by rw [H.out]; simp; omega), rfl⟩

set_option maxHeartbeats 1000000 in
theorem numsOK_any (c : Option Addr) (n cap : Nat) (f : Nat → Int) (w : World) (h : Hid (RowV w c n (iv f))) (hn : n ≤ 1099511627776) : Calls Try.prog 19 #[.slice c n cap] w fun e w' => e = .returned (.bool (fds n f)) ∧ w' = w := by
  go_enter Try.func19, Try.ntmps19
  go_wp2
  go_loopw [7] (fun s wr => ∃ k : Nat, k ≤ n ∧ s = .int .i64 k ∧ wr = w ∧ Hid (∀ i, i < k → fdb (f i) = true)) (fun s _ => n - (intOf s).toNat)
  case atStart => exact ⟨0, Nat.zero_le _, rfl, rfl, hik (fun i hi => by omega)⟩
  case round =>
    obtain ⟨k, hk, rfl, rfl, HW⟩ := hrel
    by_cases hlt : k < n
    · obtain ⟨xb, xo, rfl, hxb, hx⟩ := h.out k hlt
      have hx' : _ = some (.int .i64 (f k) : Value) := hx
      have hkn : ((k : Nat) : Int) < n := by omega
      have hcon := fieldOK_f (f k)
      cases hb : fdb (f k) with
      | true =>
        have HB := hik hb
        rw [hb] at hcon
        clear hx hb
        generalize f k = y at hx' hcon
        go_wp2_with (go_at_call 29; refine (hcon _).mono ?_; rintro e w' ⟨rfl, rfl⟩)
        go_roundw
        case rel =>
          refine ⟨k + 1, by omega, by go_num, (by first | rfl | trivial), hik (fun i hi => ?_)⟩
          by_cases e : i = k
          · subst e; exact HB.out
          · exact HW.out i (by omega)
        case measure => simp [intOf]; omega
      | false =>
        have HB := hik (fds_no hlt hb)
        rw [hb] at hcon
        clear hx hb
        generalize f k = y at hx' hcon
        go_wp2_with (go_at_call 29; refine (hcon _).mono ?_; rintro e w' ⟨rfl, rfl⟩)
        go_ret
        exact ⟨ret_bool HB.out.symm, rfl⟩
    · obtain rfl : k = n := by omega
      have HB := hik (fds_all HW.out)
      go_wp2
      go_ret
      exact ⟨ret_bool HB.out.symm, rfl⟩

set_option maxHeartbeats 4000000 in
theorem rowSums_any (c : Option Addr) (n cap : Nat) (X : Nat → En) (R : Nat) (cz : Option Addr) (m capz : Nat) (z : Nat → Int) (w : World) (hv : Hid (EntV w c n X)) (hz : Hid (RowV w cz m (iv z))) (hn : n ≤ 200) (hR : R ≤ 1048576) (hm : m ≤ 1048576)
    (hw : Hid (∀ i, i < n → win R m (X i) = true)) (hf : Hid (∀ i, i < m → 0 ≤ z i ∧ z i < 2130706433)) :
    Calls Try.prog 28 #[.slice c n cap, .int .i64 (R : Int), .slice cz m capz] w fun e w' => e = .returned (.slice (some ⟨w.heap.size, 0, none⟩) R R) ∧ w'.rowIs w.heap.size 3 R (iv (rsE X z n)) ∧ Chg nob w w' := by
  obtain ⟨i0, hi, hz0, hz1, hz2⟩ := info_parts infoInt
  have HI := hik hi
  have HZ0 := hik hz0
  have HZ1 := hik hz1
  have hb : i0.bytes * R ≤ 281474976710656 := by rw [hz2]; omega
  clear hi hz0 hz1 hz2
  go_enter Try.func28, Try.ntmps28
  go_wp2_with (at_make; refine wpList_make_row _ rfl _ _ 27 rfl 3 i0 (.int .i64 0) Try.underlying27 HI.out HZ0.out HZ1.out rfl .i64 .i64 R rfl rfl hb (by omega) ?_)
  clear hb HI HZ0 HZ1
  go_loopw [14] (fun i W => ∃ k : Nat, k ≤ n ∧ i = .int .i64 k ∧ Hid (W.rowIs w.heap.size 3 R (iv (rsE X z k))) ∧ Hid (Chg nob w W)) (fun i _ => n - (intOf i).toNat)
  case atStart => exact ⟨0, Nat.zero_le _, rfl, hik ((World.rowIs_made w (.int .i64 0) _ 3).congr (fun i _ => rfl)), hik ((Chg.refl _ _).alloc _)⟩
  case round =>
    obtain ⟨k, hk, rfl, HR, HC⟩ := hrel
    rename World => wr
    by_cases hlt : k < n
    · obtain ⟨xb, xo, rfl, hxb, c0, c1, c2⟩ := (hv.out.keep HC.out) k hlt
      obtain ⟨ri, ci, er, ec, hri, hci, v0, v1⟩ := win_nat (hw.out k hlt)
      obtain ⟨zb, zo, rfl, hzb, hz0⟩ := (hz.out.keep HC.out) ci (by omega)
      obtain ⟨zc0, zc1⟩ := hf.out ci (by omega)
      have hz0 : wr.cell? ⟨zb, zo + ci, none⟩ = some (.int .i64 (z ci)) := hz0
      obtain ⟨sb0, sb1⟩ := rsE_bd X z k ri
      have hs0 : wr.cell? ⟨w.heap.size, ri, none⟩ = some (.int .i64 (rsE X z k ri)) := HR.out.cell (by omega)
      have hwl := HR.out.lt
      have hkn : ((k : Nat) : Int) < n := by omega
      have hcm : ((ci : Nat) : Int) < m := by omega
      have hrm0 : ((ri : Nat) : Int) < R := by omega
      have hxe : X k = ((ri : Int), (ci : Int), (X k).2.2) := Prod.ext er (Prod.ext ec rfl)
      rw [er] at c0
      rw [ec] at c1
      clear er ec hri hci
      generalize hvv : (X k).2.2 = v at c2 v0 v1 hxe
      clear hvv
      have HE := hik hxe
      clear hxe
      generalize hzz : z ci = zc at hz0 zc0 zc1
      have HZC := hik hzz
      clear hzz
      generalize hsv : rsE X z k ri = s at hs0 sb0 sb1
      have HSV := hik hsv
      clear hsv
      obtain ⟨mb0, mb1⟩ := mul_bd (by omega) v1 zc0 zc1
      have hml : wrap64 (v * zc) = v * zc := Go.IntWalk.wrap64_in _ (by omega)
      have had : wrap64 (s + v * zc) = s + v * zc := Go.IntWalk.wrap64_in _ (by omega)
      have hrm : (s + v * zc).tmod 2130706433 = (s + v * zc) % 2130706433 := Int.tmod_eq_emod_of_nonneg (by omega)
      have hrm2 : wrap64 ((s + v * zc) % 2130706433) = (s + v * zc) % 2130706433 := Go.IntWalk.wrap64_in _ (by have := Int.emod_nonneg (s + v * zc) (show (2130706433 : Int) ≠ 0 by omega); have := Int.emod_lt_of_pos (s + v * zc) (show (0 : Int) < 2130706433 by omega); omega)
      have HB := hik ((Chg.refl nob wr).alloc (.cells #[.int .i64 (ri : Int), .int .i64 (ci : Int), .int .i64 v] 36))
      have s0 := HB.out.see hs0
      have z0 := HB.out.see hz0
      have e0 : World.cell? (wr.alloc (.cells #[.int .i64 (ri : Int), .int .i64 (ci : Int), .int .i64 v] 36)) ⟨wr.heap.size, 0, none⟩ = some (.int .i64 (ri : Int)) := by go_simp
      have e1 : World.cell? (wr.alloc (.cells #[.int .i64 (ri : Int), .int .i64 (ci : Int), .int .i64 v] 36)) ⟨wr.heap.size, 1, none⟩ = some (.int .i64 (ci : Int)) := by go_simp
      have e2 : World.cell? (wr.alloc (.cells #[.int .i64 (ri : Int), .int .i64 (ci : Int), .int .i64 v] 36)) ⟨wr.heap.size, 2, none⟩ = some (.int .i64 v) := by go_simp
      have RS := hik (rowIs_keep HR.out HB.out)
      have HC0 := hik (HC.out.trans HB.out)
      go_upto_region 5 with fail
      clear c0 c1 c2 hs0 hz0
      generalize wr.alloc (.cells #[.int .i64 (ri : Int), .int .i64 (ci : Int), .int .i64 v] 36) = W0 at s0 z0 e0 e1 e2 RS HC0 HB ⊢
      have KW := hik ((Chg.refl nob W0).drew1)
      have SA := hik (fun (WW : World) (kW : Chg nob W0 WW) => (show (WW.cell? ⟨wr.heap.size, 0, none⟩ = some (.int .i64 (ri : Int)) ∧ WW.cell? ⟨wr.heap.size, 1, none⟩ = some (.int .i64 (ci : Int)) ∧ WW.cell? ⟨wr.heap.size, 2, none⟩ = some (.int .i64 v) ∧ WW.cell? ⟨w.heap.size, ri, none⟩ = some (.int .i64 s) ∧ WW.cell? ⟨zb, zo + ci, none⟩ = some (.int .i64 zc)) from ⟨kW.see e0, kW.see e1, kW.see e2, kW.see s0, kW.see z0⟩))
      refine wp_regionL (L := 19) (S := fun w' => w'.cell? ⟨wr.heap.size, 0, none⟩ = some (.int .i64 (ri : Int)) ∧ w'.cell? ⟨wr.heap.size, 1, none⟩ = some (.int .i64 (ci : Int)) ∧ w'.cell? ⟨wr.heap.size, 2, none⟩ = some (.int .i64 v) ∧ w'.cell? ⟨w.heap.size, ri, none⟩ = some (.int .i64 s) ∧ w'.cell? ⟨zb, zo + ci, none⟩ = some (.int .i64 zc)) (by kernel_rfl) ⟨e0, e1, e2, s0, z0⟩ (fun hHeld => ?_)
      refine wpAnyL_take (i := 0) (v := ?_) rfl (by kernel_rfl) (by kernel_rfl) (by kernel_rfl) (fun _ _ _ h => h) (by rfl) (by kernel_rfl) (by kernel_rfl) (Or.inl ⟨by rfl, ?_⟩) (by assumption) ?_
      rotate_left 1
      · (intro w' hSw; (try dsimp only at hSw); go_simp; try with_reducible rfl)
      try simp only [Act.put, List.setIfInBounds_toArray, List.set_cons_zero, List.set_cons_succ, List.getElem_toArray, List.getElem_cons_zero, List.getElem_cons_succ]
      refine wpAnyL_take (i := 1) (v := ?_) rfl (by kernel_rfl) (by kernel_rfl) (by kernel_rfl) (fun _ _ _ h => h) (by rfl) (by kernel_rfl) (by kernel_rfl) (Or.inl ⟨by rfl, ?_⟩) (by assumption) ?_
      rotate_left 1
      · (intro w' hSw; (try dsimp only at hSw); go_simp; try with_reducible rfl)
      try simp only [Act.put, List.setIfInBounds_toArray, List.set_cons_zero, List.set_cons_succ, List.getElem_toArray, List.getElem_cons_zero, List.getElem_cons_succ]
      refine wpAnyL_take (i := 2) (v := ?_) rfl (by kernel_rfl) (by kernel_rfl) (by kernel_rfl) (fun _ _ _ h => h) (by rfl) (by kernel_rfl) (by kernel_rfl) (Or.inl ⟨by rfl, ?_⟩) (by assumption) ?_
      rotate_left 1
      · (intro w' hSw; (try dsimp only at hSw); go_simp; try with_reducible rfl)
      try simp only [Act.put, List.setIfInBounds_toArray, List.set_cons_zero, List.set_cons_succ, List.getElem_toArray, List.getElem_cons_zero, List.getElem_cons_succ]
      refine wpAnyL_take (i := 3) (v := ?_) rfl (by kernel_rfl) (by kernel_rfl) (by kernel_rfl) (fun _ _ _ h => h) (by rfl) (by kernel_rfl) (by kernel_rfl) (Or.inl ⟨by rfl, ?_⟩) (by assumption) ?_
      rotate_left 1
      · (intro w' hSw; (try dsimp only at hSw); go_simp; try with_reducible rfl)
      try simp only [Act.put, List.setIfInBounds_toArray, List.set_cons_zero, List.set_cons_succ, List.getElem_toArray, List.getElem_cons_zero, List.getElem_cons_succ]
      refine wpAnyL_take (i := 4) (v := ?_) rfl (by kernel_rfl) (by kernel_rfl) (by kernel_rfl) (fun _ _ _ h => h) (by rfl) (by kernel_rfl) (by kernel_rfl) (Or.inl ⟨by rfl, ?_⟩) (by assumption) ?_
      rotate_left 1
      · (intro w' hSw; (try dsimp only at hSw); go_simp; try with_reducible rfl)
      try simp only [Act.put, List.setIfInBounds_toArray, List.set_cons_zero, List.set_cons_succ, List.getElem_toArray, List.getElem_cons_zero, List.getElem_cons_succ]
      refine wpAnyL_take (i := 5) (v := ?_) rfl (by kernel_rfl) (by kernel_rfl) (by kernel_rfl) (fun _ _ _ h => h) (by rfl) (by kernel_rfl) (by kernel_rfl) (Or.inl ⟨by rfl, ?_⟩) (by assumption) ?_
      rotate_left 1
      · (intro w' hSw; (try dsimp only at hSw); go_simp; try with_reducible rfl)
      try simp only [Act.put, List.setIfInBounds_toArray, List.set_cons_zero, List.set_cons_succ, List.getElem_toArray, List.getElem_cons_zero, List.getElem_cons_succ]
      refine wpAnyL_take (i := 6) (v := ?_) rfl (by kernel_rfl) (by kernel_rfl) (by kernel_rfl) (fun _ _ _ h => h) (by rfl) (by kernel_rfl) (by kernel_rfl) (Or.inl ⟨by rfl, ?_⟩) (by assumption) ?_
      rotate_left 1
      · (intro w' hSw; (try dsimp only at hSw); go_simp; try with_reducible rfl)
      try simp only [Act.put, List.setIfInBounds_toArray, List.set_cons_zero, List.set_cons_succ, List.getElem_toArray, List.getElem_cons_zero, List.getElem_cons_succ]
      refine wpAnyL_take (i := 7) (v := ?_) rfl (by kernel_rfl) (by kernel_rfl) (by kernel_rfl) (fun _ _ _ h => h) (by rfl) (by kernel_rfl) (by kernel_rfl) (Or.inl ⟨by rfl, ?_⟩) (by assumption) ?_
      rotate_left 1
      · (intro w' hSw; (try dsimp only at hSw); go_simp; try with_reducible rfl)
      try simp only [Act.put, List.setIfInBounds_toArray, List.set_cons_zero, List.set_cons_succ, List.getElem_toArray, List.getElem_cons_zero, List.getElem_cons_succ]
      refine wpAnyL_take (i := 8) (v := ?_) rfl (by kernel_rfl) (by kernel_rfl) (by kernel_rfl) (fun _ _ _ h => h) (by rfl) (by kernel_rfl) (by kernel_rfl) (Or.inl ⟨by rfl, ?_⟩) (by assumption) ?_
      rotate_left 1
      · (intro w' hSw; (try dsimp only at hSw); go_simp; try with_reducible rfl)
      try simp only [Act.put, List.setIfInBounds_toArray, List.set_cons_zero, List.set_cons_succ, List.getElem_toArray, List.getElem_cons_zero, List.getElem_cons_succ]
      refine wpAnyL_take (i := 9) (v := ?_) rfl (by kernel_rfl) (by kernel_rfl) (by kernel_rfl) (fun _ _ _ h => h) (by rfl) (by kernel_rfl) (by kernel_rfl) (Or.inl ⟨by rfl, ?_⟩) (by assumption) ?_
      rotate_left 1
      · (intro w' hSw; (try dsimp only at hSw); go_simp; try with_reducible rfl)
      try simp only [Act.put, List.setIfInBounds_toArray, List.set_cons_zero, List.set_cons_succ, List.getElem_toArray, List.getElem_cons_zero, List.getElem_cons_succ]
      refine wpAnyL_take (i := 10) (v := ?_) rfl (by kernel_rfl) (by kernel_rfl) (by kernel_rfl) (fun _ _ _ h => h) (by rfl) (by kernel_rfl) (by kernel_rfl) (Or.inl ⟨by rfl, ?_⟩) (by assumption) ?_
      rotate_left 1
      · (intro w' hSw; (try dsimp only at hSw); go_simp; try with_reducible rfl)
      try simp only [Act.put, List.setIfInBounds_toArray, List.set_cons_zero, List.set_cons_succ, List.getElem_toArray, List.getElem_cons_zero, List.getElem_cons_succ]
      refine wpAnyL_take (i := 11) (v := ?_) rfl (by kernel_rfl) (by kernel_rfl) (by kernel_rfl) (fun _ _ _ h => h) (by rfl) (by kernel_rfl) (by kernel_rfl) (Or.inl ⟨by rfl, ?_⟩) (by assumption) ?_
      rotate_left 1
      · (intro w' hSw; (try dsimp only at hSw); go_simp; try with_reducible rfl)
      try simp only [Act.put, List.setIfInBounds_toArray, List.set_cons_zero, List.set_cons_succ, List.getElem_toArray, List.getElem_cons_zero, List.getElem_cons_succ]
      refine wpAnyL_take (i := 12) (v := ?_) rfl (by kernel_rfl) (by kernel_rfl) (by kernel_rfl) (fun _ _ _ h => h) (by rfl) (by kernel_rfl) (by kernel_rfl) (Or.inl ⟨by rfl, ?_⟩) (by assumption) ?_
      rotate_left 1
      · (intro w' hSw; (try dsimp only at hSw); go_simp; try with_reducible rfl)
      try simp only [Act.put, List.setIfInBounds_toArray, List.set_cons_zero, List.set_cons_succ, List.getElem_toArray, List.getElem_cons_zero, List.getElem_cons_succ]
      refine wpAnyL_take (i := 13) (v := ?_) rfl (by kernel_rfl) (by kernel_rfl) (by kernel_rfl) (fun _ _ _ h => h) (by rfl) (by kernel_rfl) (by kernel_rfl) (Or.inl ⟨by rfl, ?_⟩) (by assumption) ?_
      rotate_left 1
      · (intro w' hSw; (try dsimp only at hSw); go_simp; try with_reducible rfl)
      try simp only [Act.put, List.setIfInBounds_toArray, List.set_cons_zero, List.set_cons_succ, List.getElem_toArray, List.getElem_cons_zero, List.getElem_cons_succ]
      refine wpAnyL_take (i := 14) (v := ?_) rfl (by kernel_rfl) (by kernel_rfl) (by kernel_rfl) (fun _ _ _ h => h) (by rfl) (by kernel_rfl) (by kernel_rfl) (Or.inl ⟨by rfl, ?_⟩) (by assumption) ?_
      rotate_left 1
      · (intro w' hSw; (try dsimp only at hSw); go_simp; try with_reducible rfl)
      try simp only [Act.put, List.setIfInBounds_toArray, List.set_cons_zero, List.set_cons_succ, List.getElem_toArray, List.getElem_cons_zero, List.getElem_cons_succ]
      refine wpAnyL_take (i := 15) (v := ?_) rfl (by kernel_rfl) (by kernel_rfl) (by kernel_rfl) (fun _ _ _ h => h) (by rfl) (by kernel_rfl) (by kernel_rfl) (Or.inl ⟨by rfl, ?_⟩) (by assumption) ?_
      rotate_left 1
      · (intro w' hSw; (try dsimp only at hSw); go_simp; try with_reducible rfl)
      try simp only [Act.put, List.setIfInBounds_toArray, List.set_cons_zero, List.set_cons_succ, List.getElem_toArray, List.getElem_cons_zero, List.getElem_cons_succ]
      refine wpAnyL_take (i := 16) (v := ?_) rfl (by kernel_rfl) (by kernel_rfl) (by kernel_rfl) (fun _ _ _ h => h) (by rfl) (by kernel_rfl) (by kernel_rfl) (Or.inl ⟨by rfl, ?_⟩) (by assumption) ?_
      rotate_left 1
      · (intro w' hSw; (try dsimp only at hSw); go_simp; try with_reducible rfl)
      try simp only [Act.put, List.setIfInBounds_toArray, List.set_cons_zero, List.set_cons_succ, List.getElem_toArray, List.getElem_cons_zero, List.getElem_cons_succ]
      refine wpAnyL_take (i := 17) (v := ?_) rfl (by kernel_rfl) (by kernel_rfl) (by kernel_rfl) (fun _ _ _ h => h) (by rfl) (by kernel_rfl) (by kernel_rfl) (Or.inl ⟨by rfl, ?_⟩) (by assumption) ?_
      rotate_left 1
      · (intro w' hSw; (try dsimp only at hSw); go_simp; try with_reducible rfl)
      try simp only [Act.put, List.setIfInBounds_toArray, List.set_cons_zero, List.set_cons_succ, List.getElem_toArray, List.getElem_cons_zero, List.getElem_cons_succ]
      refine wpAnyL_take (i := 18) (v := ?_) rfl (by kernel_rfl) (by kernel_rfl) (by kernel_rfl) (fun _ _ _ h => h) (by rfl) (by kernel_rfl) (by kernel_rfl) (Or.inl ⟨by rfl, ?_⟩) (by assumption) ?_
      rotate_left 1
      · (intro w' hSw; (try dsimp only at hSw); go_simp; try with_reducible rfl)
      try simp only [Act.put, List.setIfInBounds_toArray, List.set_cons_zero, List.set_cons_succ, List.getElem_toArray, List.getElem_cons_zero, List.getElem_cons_succ]
      refine wpAnyL_ready (rs := [19]) (by kernel_rfl) (by simp) ?_
      refine AllReadyL.last rfl (by kernel_rfl) (fun K hK => ?_)
      have RS2 := hik RS.out
      have s9 := RS2.out.cell (i := ri) (by omega)
      have fz := RS2.out.frozen ri
      have KS := hik HC0.out
      simp only [List.getElem_toArray, List.getElem_cons_zero, List.getElem_cons_succ]
      go_simp
      refine hK.out _ _ ?_
      clear hK K
      try simp only [Act.put, List.setIfInBounds_toArray, List.set_cons_zero, List.set_cons_succ, List.getElem_toArray, List.getElem_cons_zero, List.getElem_cons_succ]
      have RV := hik (RS2.out.set ri (.int .i64 ((s + v * zc) % 2130706433)))
      have KV := hik (KS.out.setCell (p := ⟨w.heap.size, ri, none⟩) (fun l => absurd (show w.heap.size < w.heap.size from l) (by omega)) (.int .i64 ((s + v * zc) % 2130706433)))
      clear RS2 s9 fz KS
      refine wpAnyL_done (by kernel_rfl) ?_ _
      go_wp2
      go_roundw
      case rel =>
        refine ⟨k + 1, by omega, by go_num, hik (RV.out.drew.congr (fun i hi => ?_)), hik KV.out.drew1⟩
        simp only [iv, rsE, HE.out]
        by_cases e : i = ri
        · subst e
          rw [if_pos rfl, if_pos rfl, HSV.out]
          congr 1
          rw [show ((ci : Nat) : Int).toNat = ci by omega, HZC.out]
          first | done | exact Int.add_emod_emod_of_dvd _ _ (Int.dvd_refl _) | omega
        · rw [if_neg e, if_neg (fun q => e (by omega))]
      case measure => simp [intOf]; omega
    · obtain rfl : k = n := by omega
      go_wp2
      go_ret
      exact ⟨rfl, HR.out, HC.out⟩


end Go.Proofs.Ytjaopbaapldceaa
