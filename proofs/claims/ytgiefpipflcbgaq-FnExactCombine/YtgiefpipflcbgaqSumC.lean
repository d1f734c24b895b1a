/- What the model's looks at kinds of sums, its combinations and its sums answer: contracts. Conditions: elements of the greater field, lists that can be read. -/
import Derived.Test.YtgiefpipflcbgaqSumM
import Derived.Test.YtgiefpipflcbgaqTbsE
import Derived.Test.YtgiefpipflcbgaqTabF
import Derived.Test.YtgiefpipflcbgaqRegL
import Derived.Deep.DeepCutAuto
namespace Go.Proofs.Ytgiefpipflcbgaq
open Go.ChangeShapes Go.WideShapes Go.ChangeAt Go.RowKit
set_option linter.unusedVariables false
set_option maxRecDepth 100000
set_option linter.unusedSimpArgs false

/-- A kind of sums. -/
def kdb (k : Int) : Bool := decide (k = 1 ∨ k = 2)
theorem kdb_nat {k : Int} (h : kdb k = true) : ∃ m : Nat, k = (m : Int) ∧ (m = 1 ∨ m = 2) := by
  unfold kdb at h
  rcases of_decide_eq_true h with rfl | rfl
  · exact ⟨1, rfl, .inl rfl⟩
  · exact ⟨2, rfl, .inr rfl⟩

set_option maxHeartbeats 1000000 in
theorem sKind_any (k : Int) (w : World) : Calls Try.prog 32 #[.int .i64 k] w fun e w' => e = .returned (.bool (kdb k)) ∧ w' = w := by
  by_cases h1 : k = 1
  · subst h1
    go_enter Try.func32, Try.ntmps32
    go_wp2
    go_ret
    exact ⟨rfl, rfl⟩
  · have hb1 : (k == 1) = false := by simpa using h1
    by_cases h2 : k = 2
    · subst h2
      go_enter Try.func32, Try.ntmps32
      go_wp2
      go_ret
      exact ⟨rfl, rfl⟩
    · have hb2 : (k == 2) = false := by simpa using h2
      have HK := hik (show kdb k = false from decide_eq_false (by omega))
      rw [HK.out]
      clear h1 h2
      go_enter Try.func32, Try.ntmps32
      go_wp2
      go_ret
      exact ⟨rfl, rfl⟩

set_option maxHeartbeats 400000 in
theorem sDeg_any (k d : Int) (hw : IntKind.i64.wrap (k + 1) = d) (w : World) : Calls Try.prog 38 #[.int .i64 k] w fun e w' => e = .returned (.int .i64 d) ∧ w' = w := by
  go_enter Try.func38, Try.ntmps38
  go_wp2
  go_ret
  exact ⟨rfl, rfl⟩

set_option maxHeartbeats 400000 in
theorem sTbl_any (k d : Int) (hw : IntKind.i64.wrap (2 * k) = d) (w : World) : Calls Try.prog 33 #[.int .i64 k] w fun e w' => e = .returned (.int .i64 d) ∧ w' = w := by
  go_enter Try.func33, Try.ntmps33
  go_wp2
  go_ret
  exact ⟨rfl, rfl⟩

set_option maxHeartbeats 2000000 in
theorem sCmb1_any (c : Option Addr) (cap : Nat) (v : Nat → El) (w : World) (h : Hid (PairE w c 2 v)) : Calls Try.prog 34 #[.int .i64 1, .slice c 2 cap] w fun e w' => e = .returned (.agg #[.int .i64 (El.ml (v 0) (v 1)).v.1, .int .i64 (El.ml (v 0) (v 1)).v.2]) ∧ Chg nob w w' := by
  obtain ⟨xb, xo, ec, hxb, _, _⟩ := PairE.at_ h.out (show 0 < 2 by omega)
  subst ec
  have HU := hik (PairE.keep h.out ((Chg.refl nob w).alloc (.cells #[.int .i64 0, .int .i64 0] 25)))
  have EZ := hik (ElB.zero w)
  have G0 := hik ((Chg.refl nob w).alloc (.cells #[.int .i64 0, .int .i64 0] 25))
  go_enter Try.func34, Try.ntmps34
  go_upto_region 2 with fail
  generalize hE : w.alloc (.cells #[.int .i64 0, .int .i64 0] 25) = W0 at HU EZ G0 ⊢
  clear hE
  have x0 : W0.cell? ⟨xb, xo, none⟩ = some (.int .i64 (v 0).v.1) := by have q := PairE.c0 HU.out (i := 0) (by omega); simpa using q
  have x1 : W0.cell? ⟨xb, xo + 1, none⟩ = some (.int .i64 (v 0).v.2) := by have q := PairE.c1 HU.out (i := 0) (by omega); simpa using q
  have y0 : W0.cell? ⟨xb, xo + 2, none⟩ = some (.int .i64 (v 1).v.1) := by have q := PairE.c0 HU.out (i := 1) (by omega); simpa using q
  have y1 : W0.cell? ⟨xb, xo + 2 + 1, none⟩ = some (.int .i64 (v 1).v.2) := by have q := PairE.c1 HU.out (i := 1) (by omega); simpa using q
  have KW := hik ((Chg.refl nob W0).drew1)
  have SA := hik (fun (WW : World) (kW : Chg nob W0 WW) => (show (WW.cell? ⟨xb, xo, none⟩ = some (.int .i64 (v 0).v.1) ∧ WW.cell? ⟨xb, xo + 1, none⟩ = some (.int .i64 (v 0).v.2) ∧ WW.cell? ⟨xb, xo + 2, none⟩ = some (.int .i64 (v 1).v.1) ∧ WW.cell? ⟨xb, xo + 2 + 1, none⟩ = some (.int .i64 (v 1).v.2)) from ⟨kW.see x0, kW.see x1, kW.see y0, kW.see y1⟩))
  refine wp_regionL (L := 7) (S := fun w' => w'.cell? ⟨xb, xo, none⟩ = some (.int .i64 (v 0).v.1) ∧ w'.cell? ⟨xb, xo + 1, none⟩ = some (.int .i64 (v 0).v.2) ∧ w'.cell? ⟨xb, xo + 2, none⟩ = some (.int .i64 (v 1).v.1) ∧ w'.cell? ⟨xb, xo + 2 + 1, none⟩ = some (.int .i64 (v 1).v.2)) (by kernel_rfl) ⟨x0, x1, y0, y1⟩ (fun hHeld => ?_)
  refine wpAnyL_take (i := 0) (v := ?_) rfl (by kernel_rfl) (by kernel_rfl) (by kernel_rfl) (fun _ _ _ h => h) (by rfl) (by kernel_rfl) (by kernel_rfl) (Or.inl ⟨by rfl, ?_⟩) (by assumption) ?_
  rotate_left 1
  · (intro w' hSw; (try dsimp only at hSw); go_simp; try with_reducible rfl)
  try simp only [Act.put, List.setIfInBounds_toArray, List.set_cons_zero, List.set_cons_succ, List.getElem_toArray, List.getElem_cons_zero, List.getElem_cons_succ]
  refine wpAnyL_take (i := 1) (v := ?_) rfl (by kernel_rfl) (by kernel_rfl) (by kernel_rfl) (fun _ _ _ h => h) (by rfl) (by kernel_rfl) (by kernel_rfl) (Or.inl ⟨by rfl, ?_⟩) (by assumption) ?_
  rotate_left 1
  · (intro w' hSw; (try dsimp only at hSw); go_simp; try with_reducible rfl)
  try simp only [Act.put, List.setIfInBounds_toArray, List.set_cons_zero, List.set_cons_succ, List.getElem_toArray, List.getElem_cons_zero, List.getElem_cons_succ]
  refine wpAnyL_take (i := 2) (v := ?_) rfl (by kernel_rfl) (by kernel_rfl) (by kernel_rfl) (fun _ _ _ h => h) (by rfl) (by kernel_rfl) (by kernel_rfl) (Or.inl ⟨by rfl, ?_⟩) (by assumption) ?_
  rotate_left 1
  · (intro w' hSw; (try dsimp only at hSw); go_simp; try with_reducible rfl)
  try simp only [Act.put, List.setIfInBounds_toArray, List.set_cons_zero, List.set_cons_succ, List.getElem_toArray, List.getElem_cons_zero, List.getElem_cons_succ]
  refine wpAnyL_take (i := 3) (v := ?_) rfl (by kernel_rfl) (by kernel_rfl) (by kernel_rfl) (fun _ _ _ h => h) (by rfl) (by kernel_rfl) (by kernel_rfl) (Or.inl ⟨by rfl, ?_⟩) (by assumption) ?_
  rotate_left 1
  · (intro w' hSw; (try dsimp only at hSw); go_simp; try with_reducible rfl)
  try simp only [Act.put, List.setIfInBounds_toArray, List.set_cons_zero, List.set_cons_succ, List.getElem_toArray, List.getElem_cons_zero, List.getElem_cons_succ]
  refine wpAnyL_take (i := 4) (v := ?_) rfl (by kernel_rfl) (by kernel_rfl) (by kernel_rfl) (fun _ _ _ h => h) (by rfl) (by kernel_rfl) (by kernel_rfl) (Or.inl ⟨by rfl, ?_⟩) (by assumption) ?_
  rotate_left 1
  · (intro w' hSw; (try dsimp only at hSw); go_simp; try with_reducible rfl)
  try simp only [Act.put, List.setIfInBounds_toArray, List.set_cons_zero, List.set_cons_succ, List.getElem_toArray, List.getElem_cons_zero, List.getElem_cons_succ]
  refine wpAnyL_take (i := 5) (v := ?_) rfl (by kernel_rfl) (by kernel_rfl) (by kernel_rfl) (fun _ _ _ h => h) (by rfl) (by kernel_rfl) (by kernel_rfl) (Or.inl ⟨by rfl, ?_⟩) (by assumption) ?_
  rotate_left 1
  · (intro w' hSw; (try dsimp only at hSw); go_simp; try with_reducible rfl)
  try simp only [Act.put, List.setIfInBounds_toArray, List.set_cons_zero, List.set_cons_succ, List.getElem_toArray, List.getElem_cons_zero, List.getElem_cons_succ]
  refine wpAnyL_ready (rs := [6]) (by kernel_rfl) (by simp) ?_
  refine AllReadyL.cons rfl (fun K hK => ?_) AllReadyL.nil
  refine stepL_callN 50 #[.tmp 9, .tmp 12] #[25, 25] (by rfl) (by rfl) #[.agg #[.int .i64 (v 0).v.1, .int .i64 (v 0).v.2], .agg #[.int .i64 (v 1).v.1, .int .i64 (v 1).v.2]] (by simp only [List.map_toArray, List.map_cons, List.map_nil] <;> rfl) (run_go Try.func50 (by kernel_rfl) (by kernel_rfl) _ _) (sMl_el (v 0) (v 1) _) ?_
  rintro e U1 ⟨he, kk⟩
  refine ⟨_, he, ?_⟩
  replace KW := hik (KW.out.trans kk)
  refine hK.out _ _ (SA.out _ KW.out) (fun hHeld => ?_)
  clear hK K
  try simp only [Act.put, List.setIfInBounds_toArray, List.set_cons_zero, List.set_cons_succ, List.getElem_toArray, List.getElem_cons_zero, List.getElem_cons_succ]
  clear he kk
  refine wpAnyL_ready (rs := [7]) (by kernel_rfl) (by simp) ?_
  refine AllReadyL.last rfl (by kernel_rfl) (fun K hK => ?_)
  have EN := hik (EZ.out.keep KW.out)
  have g0 : U1.cell? ⟨w.heap.size, 0, none⟩ = some (.int .i64 0) := EN.out.c0
  have g1 : U1.cell? ⟨w.heap.size, 1, none⟩ = some (.int .i64 0) := EN.out.c1
  have f0 := EN.out.fz 0
  have f1 := EN.out.fz 1
  have ln : w.heap.size < U1.heap.size := EN.out.lt
  simp only [List.getElem_toArray, List.getElem_cons_zero, List.getElem_cons_succ]
  go_simp
  refine hK.out _ _ ?_
  clear hK K
  try simp only [Act.put, List.setIfInBounds_toArray, List.set_cons_zero, List.set_cons_succ, List.getElem_toArray, List.getElem_cons_zero, List.getElem_cons_succ]
  clear g0 g1 f0 f1 ln
  refine wpAnyL_done (by kernel_rfl) ?_ _
  have u0 := (EN.out.set (El.ml (v 0) (v 1))).c0
  have u1 := (EN.out.set (El.ml (v 0) (v 1))).c1
  have GE := hik (chg2_at (G0.out.trans KW.out) w.heap.size (fun l => absurd l (by omega)) 0 1 (.int .i64 (El.ml (v 0) (v 1)).v.1) (.int .i64 (El.ml (v 0) (v 1)).v.2))
  go_wp2
  exact bodyPost_ret (v := .agg #[.int .i64 (El.ml (v 0) (v 1)).v.1, .int .i64 (El.ml (v 0) (v 1)).v.2]) (by simp [results, Try.results34, go_sem, u0, u1]) rfl ⟨rfl, GE.out⟩

set_option maxHeartbeats 2000000 in
theorem sCmb2_any (c : Option Addr) (cap : Nat) (v : Nat → El) (w : World) (h : Hid (PairE w c 4 v)) : Calls Try.prog 34 #[.int .i64 2, .slice c 4 cap] w fun e w' => e = .returned (.agg #[.int .i64 (El.ml (v 0) (El.sb (El.ml (v 1) (v 2)) (v 3))).v.1, .int .i64 (El.ml (v 0) (El.sb (El.ml (v 1) (v 2)) (v 3))).v.2]) ∧ Chg nob w w' := by
  obtain ⟨xb, xo, ec, hxb, _, _⟩ := PairE.at_ h.out (show 0 < 4 by omega)
  subst ec
  have HU := hik (PairE.keep h.out ((Chg.refl nob w).alloc (.cells #[.int .i64 0, .int .i64 0] 25)))
  have EZ := hik (ElB.zero w)
  have G0 := hik ((Chg.refl nob w).alloc (.cells #[.int .i64 0, .int .i64 0] 25))
  go_enter Try.func34, Try.ntmps34
  go_upto_region 3 with fail
  generalize hE : w.alloc (.cells #[.int .i64 0, .int .i64 0] 25) = W0 at HU EZ G0 ⊢
  clear hE
  have a0 : W0.cell? ⟨xb, xo, none⟩ = some (.int .i64 (v 0).v.1) := by have q := PairE.c0 HU.out (i := 0) (by omega); simpa using q
  have a1 : W0.cell? ⟨xb, xo + 1, none⟩ = some (.int .i64 (v 0).v.2) := by have q := PairE.c1 HU.out (i := 0) (by omega); simpa using q
  have b0 : W0.cell? ⟨xb, xo + 2, none⟩ = some (.int .i64 (v 1).v.1) := by have q := PairE.c0 HU.out (i := 1) (by omega); simpa using q
  have b1 : W0.cell? ⟨xb, xo + 2 + 1, none⟩ = some (.int .i64 (v 1).v.2) := by have q := PairE.c1 HU.out (i := 1) (by omega); simpa using q
  have c0 : W0.cell? ⟨xb, xo + 4, none⟩ = some (.int .i64 (v 2).v.1) := by have q := PairE.c0 HU.out (i := 2) (by omega); simpa using q
  have c1 : W0.cell? ⟨xb, xo + 4 + 1, none⟩ = some (.int .i64 (v 2).v.2) := by have q := PairE.c1 HU.out (i := 2) (by omega); simpa using q
  have d0 : W0.cell? ⟨xb, xo + 6, none⟩ = some (.int .i64 (v 3).v.1) := by have q := PairE.c0 HU.out (i := 3) (by omega); simpa using q
  have d1 : W0.cell? ⟨xb, xo + 6 + 1, none⟩ = some (.int .i64 (v 3).v.2) := by have q := PairE.c1 HU.out (i := 3) (by omega); simpa using q
  have KW := hik ((Chg.refl nob W0).drew1)
  have SA := hik (fun (WW : World) (kW : Chg nob W0 WW) => (show (WW.cell? ⟨xb, xo, none⟩ = some (.int .i64 (v 0).v.1) ∧ WW.cell? ⟨xb, xo + 1, none⟩ = some (.int .i64 (v 0).v.2) ∧ WW.cell? ⟨xb, xo + 2, none⟩ = some (.int .i64 (v 1).v.1) ∧ WW.cell? ⟨xb, xo + 2 + 1, none⟩ = some (.int .i64 (v 1).v.2) ∧ WW.cell? ⟨xb, xo + 4, none⟩ = some (.int .i64 (v 2).v.1) ∧ WW.cell? ⟨xb, xo + 4 + 1, none⟩ = some (.int .i64 (v 2).v.2) ∧ WW.cell? ⟨xb, xo + 6, none⟩ = some (.int .i64 (v 3).v.1) ∧ WW.cell? ⟨xb, xo + 6 + 1, none⟩ = some (.int .i64 (v 3).v.2)) from ⟨kW.see a0, kW.see a1, kW.see b0, kW.see b1, kW.see c0, kW.see c1, kW.see d0, kW.see d1⟩))
  refine wp_regionL (L := 15) (S := fun w' => w'.cell? ⟨xb, xo, none⟩ = some (.int .i64 (v 0).v.1) ∧ w'.cell? ⟨xb, xo + 1, none⟩ = some (.int .i64 (v 0).v.2) ∧ w'.cell? ⟨xb, xo + 2, none⟩ = some (.int .i64 (v 1).v.1) ∧ w'.cell? ⟨xb, xo + 2 + 1, none⟩ = some (.int .i64 (v 1).v.2) ∧ w'.cell? ⟨xb, xo + 4, none⟩ = some (.int .i64 (v 2).v.1) ∧ w'.cell? ⟨xb, xo + 4 + 1, none⟩ = some (.int .i64 (v 2).v.2) ∧ w'.cell? ⟨xb, xo + 6, none⟩ = some (.int .i64 (v 3).v.1) ∧ w'.cell? ⟨xb, xo + 6 + 1, none⟩ = some (.int .i64 (v 3).v.2)) (by kernel_rfl) ⟨a0, a1, b0, b1, c0, c1, d0, d1⟩ (fun hHeld => ?_)
  refine wpAnyL_take (i := 0) (v := ?_) rfl (by kernel_rfl) (by kernel_rfl) (by kernel_rfl) (fun _ _ _ h => h) (by rfl) (by kernel_rfl) (by kernel_rfl) (Or.inl ⟨by rfl, ?_⟩) (by assumption) ?_
  rotate_left 1
  · (intro w' hSw; (try dsimp only at hSw); go_simp; try with_reducible rfl)
  try simp only [Act.put, List.setIfInBounds_toArray, List.set_cons_zero, List.set_cons_succ, List.getElem_toArray, List.getElem_cons_zero, List.getElem_cons_succ]
  refine wpAnyL_take (i := 1) (v := ?_) rfl (by kernel_rfl) (by kernel_rfl) (by kernel_rfl) (fun _ _ _ h => h) (by rfl) (by kernel_rfl) (by kernel_rfl) (Or.inl ⟨by rfl, ?_⟩) (by assumption) ?_
  rotate_left 1
  · (intro w' hSw; (try dsimp only at hSw); go_simp; try with_reducible rfl)
  try simp only [Act.put, List.setIfInBounds_toArray, List.set_cons_zero, List.set_cons_succ, List.getElem_toArray, List.getElem_cons_zero, List.getElem_cons_succ]
  refine wpAnyL_take (i := 2) (v := ?_) rfl (by kernel_rfl) (by kernel_rfl) (by kernel_rfl) (fun _ _ _ h => h) (by rfl) (by kernel_rfl) (by kernel_rfl) (Or.inl ⟨by rfl, ?_⟩) (by assumption) ?_
  rotate_left 1
  · (intro w' hSw; (try dsimp only at hSw); go_simp; try with_reducible rfl)
  try simp only [Act.put, List.setIfInBounds_toArray, List.set_cons_zero, List.set_cons_succ, List.getElem_toArray, List.getElem_cons_zero, List.getElem_cons_succ]
  refine wpAnyL_take (i := 3) (v := ?_) rfl (by kernel_rfl) (by kernel_rfl) (by kernel_rfl) (fun _ _ _ h => h) (by rfl) (by kernel_rfl) (by kernel_rfl) (Or.inl ⟨by rfl, ?_⟩) (by assumption) ?_
  rotate_left 1
  · (intro w' hSw; (try dsimp only at hSw); go_simp; try with_reducible rfl)
  try simp only [Act.put, List.setIfInBounds_toArray, List.set_cons_zero, List.set_cons_succ, List.getElem_toArray, List.getElem_cons_zero, List.getElem_cons_succ]
  refine wpAnyL_take (i := 4) (v := ?_) rfl (by kernel_rfl) (by kernel_rfl) (by kernel_rfl) (fun _ _ _ h => h) (by rfl) (by kernel_rfl) (by kernel_rfl) (Or.inl ⟨by rfl, ?_⟩) (by assumption) ?_
  rotate_left 1
  · (intro w' hSw; (try dsimp only at hSw); go_simp; try with_reducible rfl)
  try simp only [Act.put, List.setIfInBounds_toArray, List.set_cons_zero, List.set_cons_succ, List.getElem_toArray, List.getElem_cons_zero, List.getElem_cons_succ]
  refine wpAnyL_take (i := 5) (v := ?_) rfl (by kernel_rfl) (by kernel_rfl) (by kernel_rfl) (fun _ _ _ h => h) (by rfl) (by kernel_rfl) (by kernel_rfl) (Or.inl ⟨by rfl, ?_⟩) (by assumption) ?_
  rotate_left 1
  · (intro w' hSw; (try dsimp only at hSw); go_simp; try with_reducible rfl)
  try simp only [Act.put, List.setIfInBounds_toArray, List.set_cons_zero, List.set_cons_succ, List.getElem_toArray, List.getElem_cons_zero, List.getElem_cons_succ]
  refine wpAnyL_take (i := 6) (v := ?_) rfl (by kernel_rfl) (by kernel_rfl) (by kernel_rfl) (fun _ _ _ h => h) (by rfl) (by kernel_rfl) (by kernel_rfl) (Or.inl ⟨by rfl, ?_⟩) (by assumption) ?_
  rotate_left 1
  · (intro w' hSw; (try dsimp only at hSw); go_simp; try with_reducible rfl)
  try simp only [Act.put, List.setIfInBounds_toArray, List.set_cons_zero, List.set_cons_succ, List.getElem_toArray, List.getElem_cons_zero, List.getElem_cons_succ]
  refine wpAnyL_take (i := 7) (v := ?_) rfl (by kernel_rfl) (by kernel_rfl) (by kernel_rfl) (fun _ _ _ h => h) (by rfl) (by kernel_rfl) (by kernel_rfl) (Or.inl ⟨by rfl, ?_⟩) (by assumption) ?_
  rotate_left 1
  · (intro w' hSw; (try dsimp only at hSw); go_simp; try with_reducible rfl)
  try simp only [Act.put, List.setIfInBounds_toArray, List.set_cons_zero, List.set_cons_succ, List.getElem_toArray, List.getElem_cons_zero, List.getElem_cons_succ]
  refine wpAnyL_take (i := 8) (v := ?_) rfl (by kernel_rfl) (by kernel_rfl) (by kernel_rfl) (fun _ _ _ h => h) (by rfl) (by kernel_rfl) (by kernel_rfl) (Or.inl ⟨by rfl, ?_⟩) (by assumption) ?_
  rotate_left 1
  · (intro w' hSw; (try dsimp only at hSw); go_simp; try with_reducible rfl)
  try simp only [Act.put, List.setIfInBounds_toArray, List.set_cons_zero, List.set_cons_succ, List.getElem_toArray, List.getElem_cons_zero, List.getElem_cons_succ]
  refine wpAnyL_take (i := 10) (v := ?_) rfl (by kernel_rfl) (by kernel_rfl) (by kernel_rfl) (fun _ _ _ h => h) (by rfl) (by kernel_rfl) (by kernel_rfl) (Or.inl ⟨by rfl, ?_⟩) (by assumption) ?_
  rotate_left 1
  · (intro w' hSw; (try dsimp only at hSw); go_simp; try with_reducible rfl)
  try simp only [Act.put, List.setIfInBounds_toArray, List.set_cons_zero, List.set_cons_succ, List.getElem_toArray, List.getElem_cons_zero, List.getElem_cons_succ]
  refine wpAnyL_take (i := 11) (v := ?_) rfl (by kernel_rfl) (by kernel_rfl) (by kernel_rfl) (fun _ _ _ h => h) (by rfl) (by kernel_rfl) (by kernel_rfl) (Or.inl ⟨by rfl, ?_⟩) (by assumption) ?_
  rotate_left 1
  · (intro w' hSw; (try dsimp only at hSw); go_simp; try with_reducible rfl)
  try simp only [Act.put, List.setIfInBounds_toArray, List.set_cons_zero, List.set_cons_succ, List.getElem_toArray, List.getElem_cons_zero, List.getElem_cons_succ]
  refine wpAnyL_take (i := 12) (v := ?_) rfl (by kernel_rfl) (by kernel_rfl) (by kernel_rfl) (fun _ _ _ h => h) (by rfl) (by kernel_rfl) (by kernel_rfl) (Or.inl ⟨by rfl, ?_⟩) (by assumption) ?_
  rotate_left 1
  · (intro w' hSw; (try dsimp only at hSw); go_simp; try with_reducible rfl)
  try simp only [Act.put, List.setIfInBounds_toArray, List.set_cons_zero, List.set_cons_succ, List.getElem_toArray, List.getElem_cons_zero, List.getElem_cons_succ]
  refine wpAnyL_ready (rs := [9]) (by kernel_rfl) (by simp) ?_
  refine AllReadyL.cons rfl (fun K hK => ?_) AllReadyL.nil
  refine stepL_callN 50 #[.tmp 19, .tmp 22] #[25, 25] (by rfl) (by rfl) #[.agg #[.int .i64 (v 1).v.1, .int .i64 (v 1).v.2], .agg #[.int .i64 (v 2).v.1, .int .i64 (v 2).v.2]] (by simp only [List.map_toArray, List.map_cons, List.map_nil] <;> rfl) (run_go Try.func50 (by kernel_rfl) (by kernel_rfl) _ _) (sMl_el (v 1) (v 2) _) ?_
  rintro e U1 ⟨he, kk⟩
  refine ⟨_, he, ?_⟩
  replace KW := hik (KW.out.trans kk)
  refine hK.out _ _ (SA.out _ KW.out) (fun hHeld => ?_)
  clear hK K
  try simp only [Act.put, List.setIfInBounds_toArray, List.set_cons_zero, List.set_cons_succ, List.getElem_toArray, List.getElem_cons_zero, List.getElem_cons_succ]
  clear he kk
  refine wpAnyL_ready (rs := [13]) (by kernel_rfl) (by simp) ?_
  refine AllReadyL.cons rfl (fun K hK => ?_) AllReadyL.nil
  refine stepL_callN 51 #[.tmp 23, .tmp 26] #[25, 25] (by rfl) (by rfl) #[.agg #[.int .i64 (El.ml (v 1) (v 2)).v.1, .int .i64 (El.ml (v 1) (v 2)).v.2], .agg #[.int .i64 (v 3).v.1, .int .i64 (v 3).v.2]] (by simp only [List.map_toArray, List.map_cons, List.map_nil] <;> rfl) (run_go Try.func51 (by kernel_rfl) (by kernel_rfl) _ _) (sSb_el (El.ml (v 1) (v 2)) (v 3) _) ?_
  rintro e U2 ⟨he, kk⟩
  refine ⟨_, he, ?_⟩
  replace KW := hik (KW.out.trans kk)
  refine hK.out _ _ (SA.out _ KW.out) (fun hHeld => ?_)
  clear hK K
  try simp only [Act.put, List.setIfInBounds_toArray, List.set_cons_zero, List.set_cons_succ, List.getElem_toArray, List.getElem_cons_zero, List.getElem_cons_succ]
  clear he kk
  refine wpAnyL_ready (rs := [14]) (by kernel_rfl) (by simp) ?_
  refine AllReadyL.cons rfl (fun K hK => ?_) AllReadyL.nil
  refine stepL_callN 50 #[.tmp 16, .tmp 27] #[25, 25] (by rfl) (by rfl) #[.agg #[.int .i64 (v 0).v.1, .int .i64 (v 0).v.2], .agg #[.int .i64 (El.sb (El.ml (v 1) (v 2)) (v 3)).v.1, .int .i64 (El.sb (El.ml (v 1) (v 2)) (v 3)).v.2]] (by simp only [List.map_toArray, List.map_cons, List.map_nil] <;> rfl) (run_go Try.func50 (by kernel_rfl) (by kernel_rfl) _ _) (sMl_el (v 0) (El.sb (El.ml (v 1) (v 2)) (v 3)) _) ?_
  rintro e U3 ⟨he, kk⟩
  refine ⟨_, he, ?_⟩
  replace KW := hik (KW.out.trans kk)
  refine hK.out _ _ (SA.out _ KW.out) (fun hHeld => ?_)
  clear hK K
  try simp only [Act.put, List.setIfInBounds_toArray, List.set_cons_zero, List.set_cons_succ, List.getElem_toArray, List.getElem_cons_zero, List.getElem_cons_succ]
  clear he kk
  refine wpAnyL_ready (rs := [15]) (by kernel_rfl) (by simp) ?_
  refine AllReadyL.last rfl (by kernel_rfl) (fun K hK => ?_)
  have EN := hik (EZ.out.keep KW.out)
  have g0 : U3.cell? ⟨w.heap.size, 0, none⟩ = some (.int .i64 0) := EN.out.c0
  have g1 : U3.cell? ⟨w.heap.size, 1, none⟩ = some (.int .i64 0) := EN.out.c1
  have f0 := EN.out.fz 0
  have f1 := EN.out.fz 1
  have ln : w.heap.size < U3.heap.size := EN.out.lt
  simp only [List.getElem_toArray, List.getElem_cons_zero, List.getElem_cons_succ]
  go_simp
  refine hK.out _ _ ?_
  clear hK K
  try simp only [Act.put, List.setIfInBounds_toArray, List.set_cons_zero, List.set_cons_succ, List.getElem_toArray, List.getElem_cons_zero, List.getElem_cons_succ]
  clear g0 g1 f0 f1 ln
  refine wpAnyL_done (by kernel_rfl) ?_ _
  have u0 := (EN.out.set (El.ml (v 0) (El.sb (El.ml (v 1) (v 2)) (v 3)))).c0
  have u1 := (EN.out.set (El.ml (v 0) (El.sb (El.ml (v 1) (v 2)) (v 3)))).c1
  have GE := hik (chg2_at (G0.out.trans KW.out) w.heap.size (fun l => absurd l (by omega)) 0 1 (.int .i64 (El.ml (v 0) (El.sb (El.ml (v 1) (v 2)) (v 3))).v.1) (.int .i64 (El.ml (v 0) (El.sb (El.ml (v 1) (v 2)) (v 3))).v.2))
  go_wp2
  exact bodyPost_ret (v := .agg #[.int .i64 (El.ml (v 0) (El.sb (El.ml (v 1) (v 2)) (v 3))).v.1, .int .i64 (El.ml (v 0) (El.sb (El.ml (v 1) (v 2)) (v 3))).v.2]) (by simp [results, Try.results34, go_sem, u0, u1]) rfl ⟨rfl, GE.out⟩

theorem sCmb_any {k : Nat} (hk : k = 1 ∨ k = 2) (c : Option Addr) (n cap : Nat) (hn : n = 2 * k) (v : Nat → El) (w : World) (h : Hid (PairE w c n v)) : Calls Try.prog 34 #[.int .i64 (k : Int), .slice c n cap] w fun e w' => e = .returned (.agg #[.int .i64 (cmb k v).v.1, .int .i64 (cmb k v).v.2]) ∧ Chg nob w w' := by
  subst hn
  rcases hk with rfl | rfl
  · exact sCmb1_any c cap v w h
  · exact sCmb2_any c cap v w h

set_option maxHeartbeats 2000000 in
theorem sAt8_any {k : Nat} (hk : k = 1 ∨ k = 2) (c : Option Addr) (n N p cap : Nat) (hn : n = 2 * k) (t : Nat → Nat → El) (w : World) (h : Hid (RowsE w c n N t)) (hp : p < N) (hN : N ≤ 4096) : Calls Try.prog 41 #[.int .i64 (k : Int), .slice c n cap, .int .i64 (p : Int)] w fun e w' => e = .returned (.agg #[.int .i64 (cmb k (fun j => t j p)).v.1, .int .i64 (cmb k (fun j => t j p)).v.2]) ∧ Chg nob w w' := by
  obtain ⟨i0, hi, hz0, hz1, hz2⟩ := info_parts infoExt
  have HI := hik hi
  have HZ0 := hik hz0
  have HZ1 := hik hz1
  have HZ2 := hik hz2
  clear hi hz0 hz1 hz2
  have hn4 : n ≤ 4 := by rcases hk with rfl | rfl <;> omega
  have HNK := hik hn
  have HKK := hik hk
  have hp1 : (p : Int) < (N : Int) := by omega
  have hp0 : (0 : Int) ≤ (p : Int) := by omega
  obtain ⟨v, hv⟩ : ∃ v, v = fun j => t j p := ⟨_, rfl⟩
  rw [← hv]
  have HV := hik (show ∀ j, t j p = v j from fun j => by rw [hv])
  have EZ := hik (ElB.zero w)
  have HU := hik (RowsE.keep h.out ((Chg.refl nob w).alloc (.cells #[.int .i64 0, .int .i64 0] 25)))
  have G0 := hik ((Chg.refl nob w).alloc (.cells #[.int .i64 0, .int .i64 0] 25))
  have H0E := hik (show (w.alloc (.cells #[.int .i64 0, .int .i64 0] 25)).heap.size = w.heap.size + 1 by simp)
  clear hv hn hk
  go_enter Try.func41, Try.ntmps41
  go_wp2
  generalize hE : w.alloc (.cells #[.int .i64 0, .int .i64 0] 25) = W0 at EZ HU G0 H0E ⊢
  clear hE
  go_loopw [7, 8] (fun u i W => ∃ j : Nat, j ≤ n ∧ i = .int .i64 (j : Int) ∧ Hid (W.ownsRow W0.heap.size 25 2 u j ((List.range (j * 2)).map (pf (cA v) (cB v)))) ∧ Hid (Chg nob W0 W)) (fun _ i _ => n - (intOf i).toNat)
  case atStart => exact ⟨0, Nat.zero_le _, rfl, hik (by rw [← H0E.out]; exact flNone W0 W0.heap.size 25 2 (Nat.le_refl _)), hik ((Chg.refl _ _).alloc _)⟩
  case round =>
    obtain ⟨j, hj, rfl, HW, HG⟩ := hrel
    rename World => wi
    by_cases hlt : j < n
    · have hj1 : (j : Int) < (n : Int) := by omega
      have hj0 : (0 : Int) ≤ (j : Int) := by omega
      obtain ⟨xb, xo, A, Cp, ec, hxb, hc, hP⟩ := (RowsE.keep HU.out HG.out) j hlt
      subst ec
      obtain ⟨ab, ao, ea, hab, y0, y1⟩ := PairE.at_ hP hp
      subst ea
      rw [HV.out j] at y0 y1
      clear hP
      have hsz := HG.out.size
      go_wp2_with (at_builtin; refine wpList_append_own _ rfl (.tmp 16) (.tmp 24) 33 rfl W0.heap.size 25 i0 (.agg #[.int .i64 0, .int .i64 0]) 2 16 Try.underlying33 HI.out HZ0.out HZ1.out HZ2.out rfl (by decide) _ j _ rfl (HW.out.alloc _) ⟨_, 0, none⟩ 1 1 [.int .i64 (v j).v.1, .int .i64 (v j).v.2] rfl rfl ?c1 ?c2 ?c3 ?c4 ?c5 ?c6)
      case c1 => exact flNews _ _ _ _
      case c2 => exact flOne _ _
      case c3 => unfold maxLen; omega
      case c4 => omega
      case c5 => simp; omega
      case c6 =>
        intro v' w2 hown hgr _
        have HW2 : Hid (w2.ownsRow W0.heap.size 25 2 v' (j + 1) ((List.range ((j + 1) * 2)).map (pf (cA v) (cB v)))) := hik (by rw [← flPair]; exact hown)
        have HG2 := hik ((HG.out.alloc _).grown hgr (fun i e l => absurd (HW.out.lt i e).1 (by omega)))
        clear hown hgr HW HG y0 y1 hc
        go_wp2
        go_roundw
        case rel => exact ⟨j + 1, by omega, by go_num, HW2, HG2⟩
        case measure => simp [intOf]; omega
    · obtain rfl : n = j := by omega
      have hcc : ¬ (n : Int) < (n : Int) := by omega
      obtain ⟨cv, capv, ev, hle, ov⟩ := OwnE.of_owns HW.out
      subst ev
      have V1 := hik (show PairE wi cv n v from OwnE.pairs ov)
      have E1 := hik (EZ.out.keep HG.out)
      have G1 := hik (G0.out.trans HG.out)
      clear ov HW HG
      go_wp2_with fail
      refine (sCmb_any HKK.out cv n capv HNK.out v _ V1).mono ?_
      rintro e W2 ⟨rfl, k2⟩
      have E2 := hik (E1.out.keep k2)
      have G2 := hik (G1.out.trans k2)
      clear k2 E1 G1 V1
      have c0 : W2.cell? ⟨w.heap.size, 0, none⟩ = some (.int .i64 0) := E2.out.c0
      have c1 : W2.cell? ⟨w.heap.size, 1, none⟩ = some (.int .i64 0) := E2.out.c1
      have f0 := E2.out.fz 0
      have f1 := E2.out.fz 1
      go_wp2
      have u0 := (E2.out.set (cmb k v)).c0
      have u1 := (E2.out.set (cmb k v)).c1
      exact bodyPost_ret (v := .agg #[.int .i64 (cmb k v).v.1, .int .i64 (cmb k v).v.2]) (by simp [results, Try.results41, go_sem, u0, u1]) rfl ⟨rfl, chg2_at G2.out w.heap.size (fun l => absurd l (by omega)) 0 1 _ _⟩

set_option maxHeartbeats 2000000 in
theorem sSum8_any {k : Nat} (hk : k = 1 ∨ k = 2) (c : Option Addr) (n N cap : Nat) (hn : n = 2 * k) (t : Nat → Nat → El) (w : World) (h : Hid (RowsE w c n N t)) (hN : N ≤ 4096) : Calls Try.prog 26 #[.int .i64 (k : Int), .slice c n cap] w fun e w' => e = .returned (.agg #[.int .i64 (sms k t N).v.1, .int .i64 (sms k t N).v.2]) ∧ Chg nob w w' := by
  have HNK := hik hn
  have HKK := hik hk
  have hn0 : 0 < n := by rcases hk with rfl | rfl <;> omega
  have hn0' : (0 : Int) < (n : Int) := by omega
  obtain ⟨xb, xo, A, Cp, ec, hxb, _, _⟩ := h.out 0 hn0
  subst ec
  obtain ⟨F, hF⟩ : ∃ F, F = fun i => cmb k (fun j => t j i) := ⟨_, rfl⟩
  have HF := hik (show ∀ i, cmb k (fun j => t j i) = F i from fun i => by rw [hF])
  have HS := hik (show sms k t N = El.sm F N by rw [hF]; rfl)
  rw [HS.out]
  clear hn hk hF
  have Z0 := hik ((ElB.zero w).keep ((Chg.refl nob _).alloc (.cells #[.int .i64 0, .int .i64 0] 25)))
  have Y0 := hik (by simpa using ElB.zero (w.alloc (.cells #[.int .i64 0, .int .i64 0] 25)) : ElB ((w.alloc (.cells #[.int .i64 0, .int .i64 0] 25)).alloc (.cells #[.int .i64 0, .int .i64 0] 25)) (w.heap.size + 1) El.zr)
  have G0 := hik (((Chg.refl nob w).alloc (.cells #[.int .i64 0, .int .i64 0] 25)).alloc (.cells #[.int .i64 0, .int .i64 0] 25))
  go_enter Try.func26, Try.ntmps26
  go_wp2
  generalize hE : (w.alloc (.cells #[.int .i64 0, .int .i64 0] 25)).alloc (.cells #[.int .i64 0, .int .i64 0] 25) = W0 at Z0 Y0 G0 ⊢
  clear hE
  go_loopw [6] (fun i W => ∃ j : Nat, j ≤ N ∧ i = .int .i64 (j : Int) ∧ Hid (ElB W (w.heap.size + 1) (El.sm F j)) ∧ Hid (ElB W w.heap.size El.zr) ∧ Hid (Chg nob w W)) (fun i _ => N - (intOf i).toNat)
  case atStart => exact ⟨0, Nat.zero_le _, rfl, Y0, Z0, G0⟩
  case round =>
    clear Z0 Y0 G0
    obtain ⟨j, hj, rfl, HY, HZ, HG⟩ := hrel
    rename World => wi
    have HU := hik (RowsE.keep h.out HG.out)
    obtain ⟨xb', xo', A0, C0, ec, _, hc0, _⟩ := HU.out 0 hn0
    cases ec
    have hc1 : wi.cell? ⟨xb, xo, none⟩ = some (.slice A0 N C0) := by simpa using hc0
    clear hc0
    by_cases hlt : j < N
    · have hj1 : (j : Int) < (N : Int) := by omega
      have y0 := HY.out.c0
      have y1 := HY.out.c1
      have hyl : w.heap.size + 1 < wi.heap.size := HY.out.lt
      go_wp2
      have KW := hik ((Chg.refl nob wi).drew1)
      have SA := hik (fun (WW : World) (kW : Chg nob wi WW) => (show (WW.cell? ⟨w.heap.size + 1, 0, none⟩ = some (.int .i64 (El.sm F j).v.1) ∧ WW.cell? ⟨w.heap.size + 1, 1, none⟩ = some (.int .i64 (El.sm F j).v.2)) from ⟨kW.see y0, kW.see y1⟩))
      refine wp_regionL (L := 6) (S := fun w' => w'.cell? ⟨w.heap.size + 1, 0, none⟩ = some (.int .i64 (El.sm F j).v.1) ∧ w'.cell? ⟨w.heap.size + 1, 1, none⟩ = some (.int .i64 (El.sm F j).v.2)) (by kernel_rfl) ⟨y0, y1⟩ (fun hHeld => ?_)
      refine wpAnyL_take (i := 0) (v := ?_) rfl (by kernel_rfl) (by kernel_rfl) (by kernel_rfl) (fun _ _ _ h => h) (by rfl) (by kernel_rfl) (by kernel_rfl) (Or.inl ⟨by rfl, ?_⟩) (by assumption) ?_
      rotate_left 1
      · (intro w' hSw; (try dsimp only at hSw); go_simp; try with_reducible rfl)
      try simp only [Act.put, List.setIfInBounds_toArray, List.set_cons_zero, List.set_cons_succ, List.getElem_toArray, List.getElem_cons_zero, List.getElem_cons_succ]
      refine wpAnyL_take (i := 1) (v := ?_) rfl (by kernel_rfl) (by kernel_rfl) (by kernel_rfl) (fun _ _ _ h => h) (by rfl) (by kernel_rfl) (by kernel_rfl) (Or.inl ⟨by rfl, ?_⟩) (by assumption) ?_
      rotate_left 1
      · (intro w' hSw; (try dsimp only at hSw); go_simp; try with_reducible rfl)
      try simp only [Act.put, List.setIfInBounds_toArray, List.set_cons_zero, List.set_cons_succ, List.getElem_toArray, List.getElem_cons_zero, List.getElem_cons_succ]
      refine wpAnyL_take (i := 2) (v := ?_) rfl (by kernel_rfl) (by kernel_rfl) (by kernel_rfl) (fun _ _ _ h => h) (by rfl) (by kernel_rfl) (by kernel_rfl) (Or.inl ⟨by rfl, ?_⟩) (by assumption) ?_
      rotate_left 1
      · (intro w' hSw; (try dsimp only at hSw); go_simp; try with_reducible rfl)
      try simp only [Act.put, List.setIfInBounds_toArray, List.set_cons_zero, List.set_cons_succ, List.getElem_toArray, List.getElem_cons_zero, List.getElem_cons_succ]
      refine wpAnyL_take (i := 3) (v := ?_) rfl (by kernel_rfl) (by kernel_rfl) (by kernel_rfl) (fun _ _ _ h => h) (by rfl) (by kernel_rfl) (by kernel_rfl) (Or.inl ⟨by rfl, ?_⟩) (by assumption) ?_
      rotate_left 1
      · (intro w' hSw; (try dsimp only at hSw); go_simp; try with_reducible rfl)
      try simp only [Act.put, List.setIfInBounds_toArray, List.set_cons_zero, List.set_cons_succ, List.getElem_toArray, List.getElem_cons_zero, List.getElem_cons_succ]
      refine wpAnyL_ready (rs := [4]) (by kernel_rfl) (by simp) ?_
      refine AllReadyL.cons rfl (fun K hK => ?_) AllReadyL.nil
      refine stepL_callN 41 #[.tmp 17, .tmp 18, .tmp 19] #[3, 28, 3] (by rfl) (by rfl) #[.int .i64 (k : Int), .slice (some ⟨xb, xo, none⟩) n cap, .int .i64 (j : Int)] (by simp only [List.map_toArray, List.map_cons, List.map_nil] <;> rfl) (run_go Try.func41 (by kernel_rfl) (by kernel_rfl) _ _) (sAt8_any HKK.out (some ⟨xb, xo, none⟩) n N j cap HNK.out t _ (hik (HU.out.keep KW.out)) hlt hN) ?_
      rintro e U1 ⟨he, kk⟩
      rw [HF.out j] at he
      refine ⟨_, he, ?_⟩
      replace KW := hik (KW.out.trans kk)
      refine hK.out _ _ (SA.out _ KW.out) (fun hHeld => ?_)
      clear hK K
      try simp only [Act.put, List.setIfInBounds_toArray, List.set_cons_zero, List.set_cons_succ, List.getElem_toArray, List.getElem_cons_zero, List.getElem_cons_succ]
      clear he kk
      refine wpAnyL_ready (rs := [5]) (by kernel_rfl) (by simp) ?_
      refine AllReadyL.cons rfl (fun K hK => ?_) AllReadyL.nil
      refine stepL_callN 40 #[.tmp 16, .tmp 20] #[25, 25] (by rfl) (by rfl) #[.agg #[.int .i64 (El.sm F j).v.1, .int .i64 (El.sm F j).v.2], .agg #[.int .i64 (F j).v.1, .int .i64 (F j).v.2]] (by simp only [List.map_toArray, List.map_cons, List.map_nil] <;> rfl) (run_go Try.func40 (by kernel_rfl) (by kernel_rfl) _ _) (sAd_el (El.sm F j) (F j) _) ?_
      rintro e U2 ⟨he, kk⟩
      refine ⟨_, he, ?_⟩
      replace KW := hik (KW.out.trans kk)
      refine hK.out _ _ (SA.out _ KW.out) (fun hHeld => ?_)
      clear hK K
      try simp only [Act.put, List.setIfInBounds_toArray, List.set_cons_zero, List.set_cons_succ, List.getElem_toArray, List.getElem_cons_zero, List.getElem_cons_succ]
      clear he kk
      refine wpAnyL_ready (rs := [6]) (by kernel_rfl) (by simp) ?_
      refine AllReadyL.last rfl (by kernel_rfl) (fun K hK => ?_)
      have EN := hik (HY.out.keep KW.out)
      have g0 := EN.out.c0
      have g1 := EN.out.c1
      have f0 := EN.out.fz 0
      have f1 := EN.out.fz 1
      have ln : w.heap.size + 1 < U2.heap.size := EN.out.lt
      simp only [List.getElem_toArray, List.getElem_cons_zero, List.getElem_cons_succ]
      go_simp
      refine hK.out _ _ ?_
      clear hK K
      try simp only [Act.put, List.setIfInBounds_toArray, List.set_cons_zero, List.set_cons_succ, List.getElem_toArray, List.getElem_cons_zero, List.getElem_cons_succ]
      clear g0 g1 f0 f1 ln
      refine wpAnyL_done (by kernel_rfl) ?_ _
      have E2 := hik (show ElB ((U2.setCell ⟨w.heap.size + 1, 0, none⟩ (.int .i64 (El.ad (El.sm F j) (F j)).v.1)).setCell ⟨w.heap.size + 1, 1, none⟩ (.int .i64 (El.ad (El.sm F j) (F j)).v.2)) (w.heap.size + 1) (El.sm F (j + 1)) from EN.out.set (El.ad (El.sm F j) (F j)))
      have Z2 := hik (ElB.other (HZ.out.keep KW.out) (g := w.heap.size + 1) (by omega) 0 1 (.int .i64 (El.ad (El.sm F j) (F j)).v.1) (.int .i64 (El.ad (El.sm F j) (F j)).v.2))
      have G2 := hik (chg2_at (HG.out.trans KW.out) (w.heap.size + 1) (fun l => absurd l (by omega)) 0 1 (.int .i64 (El.ad (El.sm F j) (F j)).v.1) (.int .i64 (El.ad (El.sm F j) (F j)).v.2))
      generalize hE : ((U2.setCell ⟨w.heap.size + 1, 0, none⟩ (.int .i64 (El.ad (El.sm F j) (F j)).v.1)).setCell ⟨w.heap.size + 1, 1, none⟩ (.int .i64 (El.ad (El.sm F j) (F j)).v.2)) = W5 at E2 Z2 G2 ⊢
      clear hE EN KW SA hHeld y0 y1 HY HZ HG HU hc1
      go_wp2
      go_roundw
      case rel => exact ⟨j + 1, by omega, by go_num, E2, Z2, G2⟩
      case measure => simp [intOf]; omega
    · obtain rfl : N = j := by omega
      have y0 := HY.out.c0
      have y1 := HY.out.c1
      have c0 : wi.cell? ⟨w.heap.size, 0, none⟩ = some (.int .i64 0) := HZ.out.c0
      have c1 : wi.cell? ⟨w.heap.size, 1, none⟩ = some (.int .i64 0) := HZ.out.c1
      have f0 := HZ.out.fz 0
      have f1 := HZ.out.fz 1
      go_wp2
      have u0 := (HZ.out.set (El.sm F N)).c0
      have u1 := (HZ.out.set (El.sm F N)).c1
      exact bodyPost_ret (v := .agg #[.int .i64 (El.sm F N).v.1, .int .i64 (El.sm F N).v.2]) (by simp [results, Try.results26, go_sem, u0, u1]) rfl ⟨rfl, chg2_at HG.out w.heap.size (fun l => absurd l (by omega)) 0 1 _ _⟩
end Go.Proofs.Ytgiefpipflcbgaq
