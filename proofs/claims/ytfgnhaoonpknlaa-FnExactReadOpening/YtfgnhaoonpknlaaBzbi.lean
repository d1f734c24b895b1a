/- Several texts in one: What the laws' likenesses of lists of lists, queries and openings are: contracts. Conditions: lists that can be read, lengths of at most 2 to the 20. · The walk of the law of ReadOpening. Conditions: bytes that can be read. -/
import Derived.Test.YtfgnhaoonpknlaaBzau
import Derived.Test.YtfgnhaoonpknlaaBzas
import Derived.Test.YtfgnhaoonpknlaaBzae
import Derived.Test.YtfgnhaoonpknlaaBzbh
import Derived.Test.YtfgnhaoonpknlaaBzbg
import Derived.Test.YtfgnhaoonpknlaaBzax
import Derived.Test.YtfgnhaoonpknlaaBzah
import Derived.Test.YtfgnhaoonpknlaaBzbj
import Derived.Test.YtfgnhaoonpknlaaRegC
import Derived.Test.YtfgnhaoonpknlaaBzaf
import Derived.Test.YtfgnhaoonpknlaaBzav
import Derived.Deep.DeepCutAuto
import Derived.Deep.RegionHeld3
namespace Go.Proofs.Ytfgnhaoonpknlaa
open Go.ChangeShapes Go.WideShapes Go.ChangeAt Go.RowKit
set_option linter.unusedVariables false
set_option maxRecDepth 100000
set_option linter.unusedSimpArgs false

theorem eqStringS_d (c d : Option Addr) (n cap cap' : Nat) (L : Nat → ByteArray) (w : World) (h : Hid ((Dt.texts n L).Rep w (.slice c n cap))) (h' : Hid ((Dt.texts n L).Rep w (.slice d n cap'))) (hn : n ≤ 1048576) :
    Calls Try.prog 21 #[.slice c n cap, .slice d n cap'] w fun e w' => e = .returned (.bool true) ∧ Chg nob w w' := by
  obtain ⟨_, _, e, h1⟩ := h.out
  cases e
  obtain ⟨_, _, e, h2⟩ := h'.out
  cases e
  exact eqStringB_any c d n n cap cap' L L w (hik h1) (hik h2) rfl (fun _ _ => rfl) (by omega)
theorem eqExtS_d (c d : Option Addr) (n cap cap' : Nat) (f g : Nat → Int) (w : World) (h : Hid ((Dt.exts n f g).Rep w (.slice c n cap))) (h' : Hid ((Dt.exts n f g).Rep w (.slice d n cap'))) (hn : n ≤ 1048576) :
    Calls Try.prog 49 #[.slice c n cap, .slice d n cap'] w fun e w' => e = .returned (.bool true) ∧ Chg nob w w' := by
  obtain ⟨_, _, e, h1⟩ := h.out
  cases e
  obtain ⟨_, _, e, h2⟩ := h'.out
  cases e
  exact eqExtS_any c d n n cap cap' f g f g w (hik h1) (hik h2) rfl (fun _ _ => ⟨rfl, rfl⟩) (by omega)

set_option maxHeartbeats 2000000 in
theorem eqStringSS_d (c d : Option Addr) (n cap cap' : Nat) (l : Nat → Nat) (T : Nat → Nat → ByteArray) (w : World) (h : Hid ((dSS n l T).Rep w (.slice c n cap))) (h' : Hid ((dSS n l T).Rep w (.slice d n cap'))) (hs : Hid ((dSS n l T).small 1048576)) :
    Calls Try.prog 64 #[.slice c n cap, .slice d n cap'] w fun e w' => e = .returned (.bool true) ∧ Chg nob w w' := by
  have hn : n ≤ 1048576 := hs.out.1
  go_enter Try.func64, Try.ntmps64
  go_wp2
  go_loopw [5] (fun i W => ∃ k : Nat, k ≤ n ∧ i = .int .i64 (k : Int) ∧ Hid (Chg nob w W)) (fun i _ => n - (intOf i).toNat)
  case atStart => exact ⟨0, Nat.zero_le _, rfl, hik (Chg.refl _ _)⟩
  case round =>
    obtain ⟨k, hk, rfl, HG⟩ := hrel
    rename World => wi
    by_cases hlt : k < n
    · have hk1 : (k : Int) < (n : Int) := by omega
      have hk0 : (0 : Int) ≤ (k : Int) := by omega
      obtain ⟨xb, xo, ec, hxb, hcc⟩ := (rep_list (h.out.keep HG.out)).2 k hlt
      obtain ⟨u, x0, hu⟩ := hcc 0 (by omega)
      have hux := hu
      obtain ⟨xc, xp, rfl, hP⟩ := hu
      subst ec
      rw [show xo + (k * 1 + 0) = xo + k by omega] at x0
      have Px := hik hux
      clear hP hcc hux
      obtain ⟨yb, yo, ec, hyb, hcc⟩ := (rep_list (h'.out.keep HG.out)).2 k hlt
      obtain ⟨u, y0, hu⟩ := hcc 0 (by omega)
      have huy := hu
      obtain ⟨yc, yp, rfl, hP⟩ := hu
      subst ec
      rw [show yo + (k * 1 + 0) = yo + k by omega] at y0
      have Py := hik huy
      clear hP hcc huy
      have SK := hik (show (Dt.texts (l k) (T k)).small 1048576 from hs.out.2 k 0 hlt (by omega))
      go_wp2
      have KW := hik ((Chg.refl nob wi).drew1)
      have SA := hik (fun (WW : World) (kW : Chg nob wi WW) => (show (WW.cell? ⟨xb, xo + k, none⟩ = some (.slice xc (l k) xp) ∧ WW.cell? ⟨yb, yo + k, none⟩ = some (.slice yc (l k) yp)) from ⟨kW.see x0, kW.see y0⟩))
      refine wp_region_held_drew (S := fun w' => w'.cell? ⟨xb, xo + k, none⟩ = some (.slice xc (l k) xp) ∧ w'.cell? ⟨yb, yo + k, none⟩ = some (.slice yc (l k) yp)) (by kernel_rfl) ⟨x0, y0⟩ (fun hHeld => ?_)
      refine wpAnyH_take (i := 0) (v := ?_) rfl (by kernel_rfl) (by kernel_rfl) (by kernel_rfl) (fun _ _ _ h => h) (Or.inl ⟨by rfl, ?_⟩) (by assumption) ?_
      rotate_left 1
      · (intro w' hSw; (try dsimp only at hSw); go_simp; try with_reducible rfl)
      try simp only [Act.put, List.setIfInBounds_toArray, List.set_cons_zero, List.set_cons_succ, List.getElem_toArray, List.getElem_cons_zero, List.getElem_cons_succ]
      refine wpAnyH_take (i := 1) (v := ?_) rfl (by kernel_rfl) (by kernel_rfl) (by kernel_rfl) (fun _ _ _ h => h) (Or.inl ⟨by rfl, ?_⟩) (by assumption) ?_
      rotate_left 1
      · (intro w' hSw; (try dsimp only at hSw); go_simp; try with_reducible rfl)
      try simp only [Act.put, List.setIfInBounds_toArray, List.set_cons_zero, List.set_cons_succ, List.getElem_toArray, List.getElem_cons_zero, List.getElem_cons_succ]
      refine wpAnyH_take (i := 2) (v := ?_) rfl (by kernel_rfl) (by kernel_rfl) (by kernel_rfl) (fun _ _ _ h => h) (Or.inl ⟨by rfl, ?_⟩) (by assumption) ?_
      rotate_left 1
      · (intro w' hSw; (try dsimp only at hSw); go_simp; try with_reducible rfl)
      try simp only [Act.put, List.setIfInBounds_toArray, List.set_cons_zero, List.set_cons_succ, List.getElem_toArray, List.getElem_cons_zero, List.getElem_cons_succ]
      refine wpAnyH_take (i := 3) (v := ?_) rfl (by kernel_rfl) (by kernel_rfl) (by kernel_rfl) (fun _ _ _ h => h) (Or.inl ⟨by rfl, ?_⟩) (by assumption) ?_
      rotate_left 1
      · (intro w' hSw; (try dsimp only at hSw); go_simp; try with_reducible rfl)
      try simp only [Act.put, List.setIfInBounds_toArray, List.set_cons_zero, List.set_cons_succ, List.getElem_toArray, List.getElem_cons_zero, List.getElem_cons_succ]
      refine wpAnyH_take (i := 4) (v := ?_) rfl (by kernel_rfl) (by kernel_rfl) (by kernel_rfl) (fun _ _ _ h => h) (Or.inl ⟨by rfl, ?_⟩) (by assumption) ?_
      rotate_left 1
      · (intro w' hSw; (try dsimp only at hSw); go_simp; try with_reducible rfl)
      try simp only [Act.put, List.setIfInBounds_toArray, List.set_cons_zero, List.set_cons_succ, List.getElem_toArray, List.getElem_cons_zero, List.getElem_cons_succ]
      refine wpAnyH_take (i := 5) (v := ?_) rfl (by kernel_rfl) (by kernel_rfl) (by kernel_rfl) (fun _ _ _ h => h) (Or.inl ⟨by rfl, ?_⟩) (by assumption) ?_
      rotate_left 1
      · (intro w' hSw; (try dsimp only at hSw); go_simp; try with_reducible rfl)
      try simp only [Act.put, List.setIfInBounds_toArray, List.set_cons_zero, List.set_cons_succ, List.getElem_toArray, List.getElem_cons_zero, List.getElem_cons_succ]
      refine wpAnyH_take (i := 6) (v := ?_) rfl (by kernel_rfl) (by kernel_rfl) (by kernel_rfl) (fun _ _ _ h => h) (Or.inl ⟨by rfl, ?_⟩) (by assumption) ?_
      rotate_left 1
      · (intro w' hSw; (try dsimp only at hSw); go_simp; try with_reducible rfl)
      try simp only [Act.put, List.setIfInBounds_toArray, List.set_cons_zero, List.set_cons_succ, List.getElem_toArray, List.getElem_cons_zero, List.getElem_cons_succ]
      refine wpAnyH_take (i := 7) (v := ?_) rfl (by kernel_rfl) (by kernel_rfl) (by kernel_rfl) (fun _ _ _ h => h) (Or.inl ⟨by rfl, ?_⟩) (by assumption) ?_
      rotate_left 1
      · (intro w' hSw; (try dsimp only at hSw); go_simp; try with_reducible rfl)
      try simp only [Act.put, List.setIfInBounds_toArray, List.set_cons_zero, List.set_cons_succ, List.getElem_toArray, List.getElem_cons_zero, List.getElem_cons_succ]
      refine wpAnyH_ready (rs := [8]) (by kernel_rfl) (by simp) ?_
      refine AllReadyH.cons rfl (fun K hK => ?_) AllReadyH.nil
      refine stepL_callN 21 #[.tmp 20, .tmp 24] #[26, 26] (by rfl) (by rfl) #[.slice xc (l k) xp, .slice yc (l k) yp] (by simp only [List.map_toArray, List.map_cons, List.map_nil] <;> rfl) (run_go Try.func21 (by kernel_rfl) (by kernel_rfl) _ _) (eqStringS_d xc yc (l k) xp yp (T k) _ (hik (Px.out.keep KW.out)) (hik (Py.out.keep KW.out)) SK.out.1) ?_
      rintro e U1 ⟨he, kk⟩
      refine ⟨_, he, ?_⟩
      replace KW := hik (KW.out.trans kk)
      refine hK.out _ _ (SA.out _ KW.out) (fun hHeld => ?_)
      clear hK K
      try simp only [Act.put, List.setIfInBounds_toArray, List.set_cons_zero, List.set_cons_succ, List.getElem_toArray, List.getElem_cons_zero, List.getElem_cons_succ]
      clear he kk
      refine wpAnyH_take (i := 9) (v := ?_) rfl (by kernel_rfl) (by kernel_rfl) (by kernel_rfl) (fun _ _ _ h => h) (Or.inl ⟨by rfl, ?_⟩) (by assumption) ?_
      rotate_left 1
      · (intro w' hSw; (try dsimp only at hSw); go_simp; try with_reducible rfl)
      try simp only [Act.put, List.setIfInBounds_toArray, List.set_cons_zero, List.set_cons_succ, List.getElem_toArray, List.getElem_cons_zero, List.getElem_cons_succ]
      refine wpAnyH_done (by kernel_rfl) ?_ _
      have GE := hik (HG.out.trans KW.out)
      clear KW SA hHeld x0 y0 HG
      go_wp2
      go_roundw
      case rel => exact ⟨k + 1, by omega, by go_num, GE⟩
      case measure => simp [intOf]; omega
    · obtain rfl : n = k := by omega
      have hcc : ¬ (n : Int) < (n : Int) := by omega
      go_wp2
      go_ret
      exact ⟨rfl, HG.out⟩

set_option maxHeartbeats 2000000 in
theorem eqExtSS_d (c d : Option Addr) (n cap cap' : Nat) (l : Nat → Nat) (f g : Nat → Nat → Int) (w : World) (h : Hid ((dEE n l f g).Rep w (.slice c n cap))) (h' : Hid ((dEE n l f g).Rep w (.slice d n cap'))) (hs : Hid ((dEE n l f g).small 1048576)) :
    Calls Try.prog 20 #[.slice c n cap, .slice d n cap'] w fun e w' => e = .returned (.bool true) ∧ Chg nob w w' := by
  have hn : n ≤ 1048576 := hs.out.1
  go_enter Try.func20, Try.ntmps20
  go_wp2
  go_loopw [5] (fun i W => ∃ k : Nat, k ≤ n ∧ i = .int .i64 (k : Int) ∧ Hid (Chg nob w W)) (fun i _ => n - (intOf i).toNat)
  case atStart => exact ⟨0, Nat.zero_le _, rfl, hik (Chg.refl _ _)⟩
  case round =>
    obtain ⟨k, hk, rfl, HG⟩ := hrel
    rename World => wi
    by_cases hlt : k < n
    · have hk1 : (k : Int) < (n : Int) := by omega
      have hk0 : (0 : Int) ≤ (k : Int) := by omega
      obtain ⟨xb, xo, ec, hxb, hcc⟩ := (rep_list (h.out.keep HG.out)).2 k hlt
      obtain ⟨u, x0, hu⟩ := hcc 0 (by omega)
      have hux := hu
      obtain ⟨xc, xp, rfl, hP⟩ := hu
      subst ec
      rw [show xo + (k * 1 + 0) = xo + k by omega] at x0
      have Px := hik hux
      clear hP hcc hux
      obtain ⟨yb, yo, ec, hyb, hcc⟩ := (rep_list (h'.out.keep HG.out)).2 k hlt
      obtain ⟨u, y0, hu⟩ := hcc 0 (by omega)
      have huy := hu
      obtain ⟨yc, yp, rfl, hP⟩ := hu
      subst ec
      rw [show yo + (k * 1 + 0) = yo + k by omega] at y0
      have Py := hik huy
      clear hP hcc huy
      have SK := hik (show (Dt.exts (l k) (f k) (g k)).small 1048576 from hs.out.2 k 0 hlt (by omega))
      go_wp2
      have KW := hik ((Chg.refl nob wi).drew1)
      have SA := hik (fun (WW : World) (kW : Chg nob wi WW) => (show (WW.cell? ⟨xb, xo + k, none⟩ = some (.slice xc (l k) xp) ∧ WW.cell? ⟨yb, yo + k, none⟩ = some (.slice yc (l k) yp)) from ⟨kW.see x0, kW.see y0⟩))
      refine wp_region_held_drew (S := fun w' => w'.cell? ⟨xb, xo + k, none⟩ = some (.slice xc (l k) xp) ∧ w'.cell? ⟨yb, yo + k, none⟩ = some (.slice yc (l k) yp)) (by kernel_rfl) ⟨x0, y0⟩ (fun hHeld => ?_)
      refine wpAnyH_take (i := 0) (v := ?_) rfl (by kernel_rfl) (by kernel_rfl) (by kernel_rfl) (fun _ _ _ h => h) (Or.inl ⟨by rfl, ?_⟩) (by assumption) ?_
      rotate_left 1
      · (intro w' hSw; (try dsimp only at hSw); go_simp; try with_reducible rfl)
      try simp only [Act.put, List.setIfInBounds_toArray, List.set_cons_zero, List.set_cons_succ, List.getElem_toArray, List.getElem_cons_zero, List.getElem_cons_succ]
      refine wpAnyH_take (i := 1) (v := ?_) rfl (by kernel_rfl) (by kernel_rfl) (by kernel_rfl) (fun _ _ _ h => h) (Or.inl ⟨by rfl, ?_⟩) (by assumption) ?_
      rotate_left 1
      · (intro w' hSw; (try dsimp only at hSw); go_simp; try with_reducible rfl)
      try simp only [Act.put, List.setIfInBounds_toArray, List.set_cons_zero, List.set_cons_succ, List.getElem_toArray, List.getElem_cons_zero, List.getElem_cons_succ]
      refine wpAnyH_take (i := 2) (v := ?_) rfl (by kernel_rfl) (by kernel_rfl) (by kernel_rfl) (fun _ _ _ h => h) (Or.inl ⟨by rfl, ?_⟩) (by assumption) ?_
      rotate_left 1
      · (intro w' hSw; (try dsimp only at hSw); go_simp; try with_reducible rfl)
      try simp only [Act.put, List.setIfInBounds_toArray, List.set_cons_zero, List.set_cons_succ, List.getElem_toArray, List.getElem_cons_zero, List.getElem_cons_succ]
      refine wpAnyH_take (i := 3) (v := ?_) rfl (by kernel_rfl) (by kernel_rfl) (by kernel_rfl) (fun _ _ _ h => h) (Or.inl ⟨by rfl, ?_⟩) (by assumption) ?_
      rotate_left 1
      · (intro w' hSw; (try dsimp only at hSw); go_simp; try with_reducible rfl)
      try simp only [Act.put, List.setIfInBounds_toArray, List.set_cons_zero, List.set_cons_succ, List.getElem_toArray, List.getElem_cons_zero, List.getElem_cons_succ]
      refine wpAnyH_take (i := 4) (v := ?_) rfl (by kernel_rfl) (by kernel_rfl) (by kernel_rfl) (fun _ _ _ h => h) (Or.inl ⟨by rfl, ?_⟩) (by assumption) ?_
      rotate_left 1
      · (intro w' hSw; (try dsimp only at hSw); go_simp; try with_reducible rfl)
      try simp only [Act.put, List.setIfInBounds_toArray, List.set_cons_zero, List.set_cons_succ, List.getElem_toArray, List.getElem_cons_zero, List.getElem_cons_succ]
      refine wpAnyH_take (i := 5) (v := ?_) rfl (by kernel_rfl) (by kernel_rfl) (by kernel_rfl) (fun _ _ _ h => h) (Or.inl ⟨by rfl, ?_⟩) (by assumption) ?_
      rotate_left 1
      · (intro w' hSw; (try dsimp only at hSw); go_simp; try with_reducible rfl)
      try simp only [Act.put, List.setIfInBounds_toArray, List.set_cons_zero, List.set_cons_succ, List.getElem_toArray, List.getElem_cons_zero, List.getElem_cons_succ]
      refine wpAnyH_take (i := 6) (v := ?_) rfl (by kernel_rfl) (by kernel_rfl) (by kernel_rfl) (fun _ _ _ h => h) (Or.inl ⟨by rfl, ?_⟩) (by assumption) ?_
      rotate_left 1
      · (intro w' hSw; (try dsimp only at hSw); go_simp; try with_reducible rfl)
      try simp only [Act.put, List.setIfInBounds_toArray, List.set_cons_zero, List.set_cons_succ, List.getElem_toArray, List.getElem_cons_zero, List.getElem_cons_succ]
      refine wpAnyH_take (i := 7) (v := ?_) rfl (by kernel_rfl) (by kernel_rfl) (by kernel_rfl) (fun _ _ _ h => h) (Or.inl ⟨by rfl, ?_⟩) (by assumption) ?_
      rotate_left 1
      · (intro w' hSw; (try dsimp only at hSw); go_simp; try with_reducible rfl)
      try simp only [Act.put, List.setIfInBounds_toArray, List.set_cons_zero, List.set_cons_succ, List.getElem_toArray, List.getElem_cons_zero, List.getElem_cons_succ]
      refine wpAnyH_ready (rs := [8]) (by kernel_rfl) (by simp) ?_
      refine AllReadyH.cons rfl (fun K hK => ?_) AllReadyH.nil
      refine stepL_callN 49 #[.tmp 20, .tmp 24] #[61, 61] (by rfl) (by rfl) #[.slice xc (l k) xp, .slice yc (l k) yp] (by simp only [List.map_toArray, List.map_cons, List.map_nil] <;> rfl) (run_go Try.func49 (by kernel_rfl) (by kernel_rfl) _ _) (eqExtS_d xc yc (l k) xp yp (f k) (g k) _ (hik (Px.out.keep KW.out)) (hik (Py.out.keep KW.out)) SK.out) ?_
      rintro e U1 ⟨he, kk⟩
      refine ⟨_, he, ?_⟩
      replace KW := hik (KW.out.trans kk)
      refine hK.out _ _ (SA.out _ KW.out) (fun hHeld => ?_)
      clear hK K
      try simp only [Act.put, List.setIfInBounds_toArray, List.set_cons_zero, List.set_cons_succ, List.getElem_toArray, List.getElem_cons_zero, List.getElem_cons_succ]
      clear he kk
      refine wpAnyH_take (i := 9) (v := ?_) rfl (by kernel_rfl) (by kernel_rfl) (by kernel_rfl) (fun _ _ _ h => h) (Or.inl ⟨by rfl, ?_⟩) (by assumption) ?_
      rotate_left 1
      · (intro w' hSw; (try dsimp only at hSw); go_simp; try with_reducible rfl)
      try simp only [Act.put, List.setIfInBounds_toArray, List.set_cons_zero, List.set_cons_succ, List.getElem_toArray, List.getElem_cons_zero, List.getElem_cons_succ]
      refine wpAnyH_done (by kernel_rfl) ?_ _
      have GE := hik (HG.out.trans KW.out)
      clear KW SA hHeld x0 y0 HG
      go_wp2
      go_roundw
      case rel => exact ⟨k + 1, by omega, by go_num, GE⟩
      case measure => simp [intOf]; omega
    · obtain rfl : n = k := by omega
      have hcc : ¬ (n : Int) < (n : Int) := by omega
      go_wp2
      go_ret
      exact ⟨rfl, HG.out⟩

set_option maxHeartbeats 2000000 in
theorem eqQuery_d (c d : Option Addr) (cap cap' : Nat) (c' d' : Option Addr) (p p' : Nat) (q : QD) (w : World) (h : Hid (q.P.Rep w (.slice c q.np cap))) (h' : Hid (q.S.Rep w (.slice d q.nq cap'))) (h2 : Hid (q.P.Rep w (.slice c' q.np p))) (h2' : Hid (q.S.Rep w (.slice d' q.nq p'))) (hs : Hid (q.P.small 1048576)) (hs' : Hid (q.S.small 1048576)) :
    Calls Try.prog 50 #[.agg #[.slice c q.np cap, .slice d q.nq cap'], .agg #[.slice c' q.np p, .slice d' q.nq p']] w fun e w' => e = .returned (.bool true) ∧ Chg nob w w' := by
  have R0 := hik (rowIs_keep (row2_new w (.slice c q.np cap) (.slice d q.nq cap') 68) ((Chg.refl nob _).alloc (.cells #[.slice c' q.np p, .slice d' q.nq p'] 68)))
  have R1 := hik (row2_new (w.alloc (.cells #[.slice c q.np cap, .slice d q.nq cap'] 68)) (.slice c' q.np p) (.slice d' q.nq p') 68)
  have K0 := hik (((Chg.refl nob w).alloc (.cells #[.slice c q.np cap, .slice d q.nq cap'] 68)).alloc (.cells #[.slice c' q.np p, .slice d' q.nq p'] 68))
  rw [asz] at R1
  go_enter Try.func50, Try.ntmps50
  go_wp2_with fail
  generalize hW : (w.alloc (.cells #[.slice c q.np cap, .slice d q.nq cap'] 68)).alloc (.cells #[.slice c' q.np p, .slice d' q.nq p'] 68) = W0 at R0 R1 K0 ⊢
  clear hW
  refine (eqExtS_d c c' q.np cap p q.f q.g _ (hik (h.out.keep K0.out)) (hik (h2.out.keep K0.out)) hs.out).mono ?_
  rintro e W1 ⟨rfl, k1⟩
  have G1 := hik (K0.out.trans k1)
  replace R0 := hik (rowIs_keep R0.out k1)
  replace R1 := hik (rowIs_keep R1.out k1)
  clear k1
  have x1 := row2_c1 R0.out
  have y1 := row2_c1 R1.out
  go_wp2_with fail
  refine (eqStringSS_d d d' q.nq cap' p' q.l q.T _ (hik (h'.out.keep G1.out)) (hik (h2'.out.keep G1.out)) hs').mono ?_
  rintro e W2 ⟨rfl, k2⟩
  have G2 := hik (G1.out.trans k2)
  clear k2 x1 y1
  go_wp2
  go_ret
  exact ⟨rfl, G2.out⟩

set_option maxHeartbeats 2000000 in
theorem eqQueryS_d (c d : Option Addr) (n cap cap' : Nat) (q : Nat → QD) (w : World) (h : Hid ((dQs n q).Rep w (.slice c n cap))) (h' : Hid ((dQs n q).Rep w (.slice d n cap'))) (hs : Hid ((dQs n q).small 1048576)) :
    Calls Try.prog 23 #[.slice c n cap, .slice d n cap'] w fun e w' => e = .returned (.bool true) ∧ Chg nob w w' := by
  have hn : n ≤ 1048576 := hs.out.1
  go_enter Try.func23, Try.ntmps23
  go_wp2
  go_loopw [5] (fun i W => ∃ k : Nat, k ≤ n ∧ i = .int .i64 (k : Int) ∧ Hid (Chg nob w W)) (fun i _ => n - (intOf i).toNat)
  case atStart => exact ⟨0, Nat.zero_le _, rfl, hik (Chg.refl _ _)⟩
  case round =>
    obtain ⟨k, hk, rfl, HG⟩ := hrel
    rename World => wi
    by_cases hlt : k < n
    · have hk1 : (k : Int) < (n : Int) := by omega
      have hk0 : (0 : Int) ≤ (k : Int) := by omega
      obtain ⟨xb, xo, xc, xp, xd, xq, ec, hxb, x0, x1, hP, hS⟩ := dQs_at (h.out.keep HG.out) hlt
      subst ec
      have Px := hik hP
      have Sx := hik hS
      clear hP hS
      obtain ⟨yb, yo, yc, yp, yd, yq, ec, hyb, y0, y1, hP, hS⟩ := dQs_at (h'.out.keep HG.out) hlt
      subst ec
      have Py := hik hP
      have Sy := hik hS
      clear hP hS
      have S0 := hik (show (q k).P.small 1048576 from hs.out.2 k 0 hlt (by omega))
      have S1 := hik (show (q k).S.small 1048576 from hs.out.2 k 1 hlt (by omega))
      go_wp2
      have KW := hik ((Chg.refl nob wi).drew1)
      have SA := hik (fun (WW : World) (kW : Chg nob wi WW) => (show (WW.cell? ⟨xb, xo + k * 2, none⟩ = some (.slice xc (q k).np xp) ∧ WW.cell? ⟨xb, xo + k * 2 + 1, none⟩ = some (.slice xd (q k).nq xq) ∧ WW.cell? ⟨yb, yo + k * 2, none⟩ = some (.slice yc (q k).np yp) ∧ WW.cell? ⟨yb, yo + k * 2 + 1, none⟩ = some (.slice yd (q k).nq yq)) from ⟨kW.see x0, kW.see x1, kW.see y0, kW.see y1⟩))
      refine wp_region_held_drew (S := fun w' => w'.cell? ⟨xb, xo + k * 2, none⟩ = some (.slice xc (q k).np xp) ∧ w'.cell? ⟨xb, xo + k * 2 + 1, none⟩ = some (.slice xd (q k).nq xq) ∧ w'.cell? ⟨yb, yo + k * 2, none⟩ = some (.slice yc (q k).np yp) ∧ w'.cell? ⟨yb, yo + k * 2 + 1, none⟩ = some (.slice yd (q k).nq yq)) (by kernel_rfl) ⟨x0, x1, y0, y1⟩ (fun hHeld => ?_)
      refine wpAnyH_take (i := 0) (v := ?_) rfl (by kernel_rfl) (by kernel_rfl) (by kernel_rfl) (fun _ _ _ h => h) (Or.inl ⟨by rfl, ?_⟩) (by assumption) ?_
      rotate_left 1
      · (intro w' hSw; (try dsimp only at hSw); go_simp; try with_reducible rfl)
      try simp only [Act.put, List.setIfInBounds_toArray, List.set_cons_zero, List.set_cons_succ, List.getElem_toArray, List.getElem_cons_zero, List.getElem_cons_succ]
      refine wpAnyH_take (i := 1) (v := ?_) rfl (by kernel_rfl) (by kernel_rfl) (by kernel_rfl) (fun _ _ _ h => h) (Or.inl ⟨by rfl, ?_⟩) (by assumption) ?_
      rotate_left 1
      · (intro w' hSw; (try dsimp only at hSw); go_simp; try with_reducible rfl)
      try simp only [Act.put, List.setIfInBounds_toArray, List.set_cons_zero, List.set_cons_succ, List.getElem_toArray, List.getElem_cons_zero, List.getElem_cons_succ]
      refine wpAnyH_take (i := 2) (v := ?_) rfl (by kernel_rfl) (by kernel_rfl) (by kernel_rfl) (fun _ _ _ h => h) (Or.inl ⟨by rfl, ?_⟩) (by assumption) ?_
      rotate_left 1
      · (intro w' hSw; (try dsimp only at hSw); go_simp; try with_reducible rfl)
      try simp only [Act.put, List.setIfInBounds_toArray, List.set_cons_zero, List.set_cons_succ, List.getElem_toArray, List.getElem_cons_zero, List.getElem_cons_succ]
      refine wpAnyH_take (i := 3) (v := ?_) rfl (by kernel_rfl) (by kernel_rfl) (by kernel_rfl) (fun _ _ _ h => h) (Or.inl ⟨by rfl, ?_⟩) (by assumption) ?_
      rotate_left 1
      · (intro w' hSw; (try dsimp only at hSw); go_simp; try with_reducible rfl)
      try simp only [Act.put, List.setIfInBounds_toArray, List.set_cons_zero, List.set_cons_succ, List.getElem_toArray, List.getElem_cons_zero, List.getElem_cons_succ]
      refine wpAnyH_take (i := 4) (v := ?_) rfl (by kernel_rfl) (by kernel_rfl) (by kernel_rfl) (fun _ _ _ h => h) (Or.inl ⟨by rfl, ?_⟩) (by assumption) ?_
      rotate_left 1
      · (intro w' hSw; (try dsimp only at hSw); go_simp; try with_reducible rfl)
      try simp only [Act.put, List.setIfInBounds_toArray, List.set_cons_zero, List.set_cons_succ, List.getElem_toArray, List.getElem_cons_zero, List.getElem_cons_succ]
      refine wpAnyH_take (i := 5) (v := ?_) rfl (by kernel_rfl) (by kernel_rfl) (by kernel_rfl) (fun _ _ _ h => h) (Or.inl ⟨by rfl, ?_⟩) (by assumption) ?_
      rotate_left 1
      · (intro w' hSw; (try dsimp only at hSw); go_simp; try with_reducible rfl)
      try simp only [Act.put, List.setIfInBounds_toArray, List.set_cons_zero, List.set_cons_succ, List.getElem_toArray, List.getElem_cons_zero, List.getElem_cons_succ]
      refine wpAnyH_take (i := 6) (v := ?_) rfl (by kernel_rfl) (by kernel_rfl) (by kernel_rfl) (fun _ _ _ h => h) (Or.inl ⟨by rfl, ?_⟩) (by assumption) ?_
      rotate_left 1
      · (intro w' hSw; (try dsimp only at hSw); go_simp; try with_reducible rfl)
      try simp only [Act.put, List.setIfInBounds_toArray, List.set_cons_zero, List.set_cons_succ, List.getElem_toArray, List.getElem_cons_zero, List.getElem_cons_succ]
      refine wpAnyH_take (i := 7) (v := ?_) rfl (by kernel_rfl) (by kernel_rfl) (by kernel_rfl) (fun _ _ _ h => h) (Or.inl ⟨by rfl, ?_⟩) (by assumption) ?_
      rotate_left 1
      · (intro w' hSw; (try dsimp only at hSw); go_simp; try with_reducible rfl)
      try simp only [Act.put, List.setIfInBounds_toArray, List.set_cons_zero, List.set_cons_succ, List.getElem_toArray, List.getElem_cons_zero, List.getElem_cons_succ]
      refine wpAnyH_ready (rs := [8]) (by kernel_rfl) (by simp) ?_
      refine AllReadyH.cons rfl (fun K hK => ?_) AllReadyH.nil
      refine stepL_callN 50 #[.tmp 20, .tmp 24] #[68, 68] (by rfl) (by rfl) #[.agg #[.slice xc (q k).np xp, .slice xd (q k).nq xq], .agg #[.slice yc (q k).np yp, .slice yd (q k).nq yq]] (by simp only [List.map_toArray, List.map_cons, List.map_nil] <;> rfl) (run_go Try.func50 (by kernel_rfl) (by kernel_rfl) _ _) (eqQuery_d xc xd xp xq yc yd yp yq (q k) _ (hik (Px.out.keep KW.out)) (hik (Sx.out.keep KW.out)) (hik (Py.out.keep KW.out)) (hik (Sy.out.keep KW.out)) S0 S1) ?_
      rintro e U1 ⟨he, kk⟩
      refine ⟨_, he, ?_⟩
      replace KW := hik (KW.out.trans kk)
      refine hK.out _ _ (SA.out _ KW.out) (fun hHeld => ?_)
      clear hK K
      try simp only [Act.put, List.setIfInBounds_toArray, List.set_cons_zero, List.set_cons_succ, List.getElem_toArray, List.getElem_cons_zero, List.getElem_cons_succ]
      clear he kk
      refine wpAnyH_take (i := 9) (v := ?_) rfl (by kernel_rfl) (by kernel_rfl) (by kernel_rfl) (fun _ _ _ h => h) (Or.inl ⟨by rfl, ?_⟩) (by assumption) ?_
      rotate_left 1
      · (intro w' hSw; (try dsimp only at hSw); go_simp; try with_reducible rfl)
      try simp only [Act.put, List.setIfInBounds_toArray, List.set_cons_zero, List.set_cons_succ, List.getElem_toArray, List.getElem_cons_zero, List.getElem_cons_succ]
      refine wpAnyH_done (by kernel_rfl) ?_ _
      have GE := hik (HG.out.trans KW.out)
      clear KW SA hHeld x0 x1 y0 y1 HG
      go_wp2
      go_roundw
      case rel => exact ⟨k + 1, by omega, by go_num, GE⟩
      case measure => simp [intOf]; omega
    · obtain rfl : n = k := by omega
      have hcc : ¬ (n : Int) < (n : Int) := by omega
      go_wp2
      go_ret
      exact ⟨rfl, HG.out⟩

set_option maxHeartbeats 4000000 in
theorem eqOpening_d (o : OD) (cR : Option Addr) (pR : Nat) (cT : Option Addr) (pT : Nat) (cQ : Option Addr) (pQ : Nat) (cR' : Option Addr) (pR' : Nat) (cT' : Option Addr) (pT' : Nat) (cQ' : Option Addr) (pQ' : Nat) (w : World) (h : Hid (OpV w o cR pR cT pT cQ pQ)) (h' : Hid (OpV w o cR' pR' cT' pT' cQ' pQ')) (hs : Hid o.small) :
    Calls Try.prog 8 #[.agg #[.slice cR o.nr pR, .slice cT o.nt pT, .int .i64 o.la, .int .i64 o.lb, .int .i64 o.no, .slice cQ o.nq pQ], .agg #[.slice cR' o.nr pR', .slice cT' o.nt pT', .int .i64 o.la, .int .i64 o.lb, .int .i64 o.no, .slice cQ' o.nq pQ']] w fun e w' => e = .returned (.bool true) ∧ Chg nob w w' := by
  have R0 := hik (rowIs_keep (rowN_new w 6 #[.slice cR o.nr pR, .slice cT o.nt pT, .int .i64 o.la, .int .i64 o.lb, .int .i64 o.no, .slice cQ o.nq pQ] 31 rfl) ((Chg.refl nob _).alloc (.cells #[.slice cR' o.nr pR', .slice cT' o.nt pT', .int .i64 o.la, .int .i64 o.lb, .int .i64 o.no, .slice cQ' o.nq pQ'] 31)))
  have R1 := hik (rowN_new (w.alloc (.cells #[.slice cR o.nr pR, .slice cT o.nt pT, .int .i64 o.la, .int .i64 o.lb, .int .i64 o.no, .slice cQ o.nq pQ] 31)) 6 #[.slice cR' o.nr pR', .slice cT' o.nt pT', .int .i64 o.la, .int .i64 o.lb, .int .i64 o.no, .slice cQ' o.nq pQ'] 31 rfl)
  have K0 := hik (((Chg.refl nob w).alloc (.cells #[.slice cR o.nr pR, .slice cT o.nt pT, .int .i64 o.la, .int .i64 o.lb, .int .i64 o.no, .slice cQ o.nq pQ] 31)).alloc (.cells #[.slice cR' o.nr pR', .slice cT' o.nt pT', .int .i64 o.la, .int .i64 o.lb, .int .i64 o.no, .slice cQ' o.nq pQ'] 31))
  rw [asz] at R1
  go_enter Try.func8, Try.ntmps8
  go_wp2_with fail
  generalize hW : (w.alloc (.cells #[.slice cR o.nr pR, .slice cT o.nt pT, .int .i64 o.la, .int .i64 o.lb, .int .i64 o.no, .slice cQ o.nq pQ] 31)).alloc (.cells #[.slice cR' o.nr pR', .slice cT' o.nt pT', .int .i64 o.la, .int .i64 o.lb, .int .i64 o.no, .slice cQ' o.nq pQ'] 31) = W0 at R0 R1 K0 ⊢
  clear hW
  refine (eqExtSS_d cR cR' o.nr pR pR' o.rl o.rf o.rg _ (hik (h.out.1.keep K0.out)) (hik (h'.out.1.keep K0.out)) (hik hs.out.1)).mono ?_
  rintro e W1 ⟨rfl, k1⟩
  have G1 := hik (K0.out.trans k1)
  replace R0 := hik (rowIs_keep R0.out k1)
  replace R1 := hik (rowIs_keep R1.out k1)
  clear k1
  have x1 : _ = some (.slice cT o.nt pT : Value) := R0.out.cell (i := 1) (by omega)
  have y1 : _ = some (.slice cT' o.nt pT' : Value) := R1.out.cell (i := 1) (by omega)
  go_wp2_with fail
  refine (eqStringS_d cT cT' o.nt pT pT' o.ts _ (hik (h.out.2.1.keep G1.out)) (hik (h'.out.2.1.keep G1.out)) hs.out.2.1.1).mono ?_
  rintro e W2 ⟨rfl, k2⟩
  have G2 := hik (G1.out.trans k2)
  replace R0 := hik (rowIs_keep R0.out k2)
  replace R1 := hik (rowIs_keep R1.out k2)
  clear k2 x1 y1
  have x2 : _ = some (.int .i64 o.la : Value) := R0.out.cell (i := 2) (by omega)
  have x3 : _ = some (.int .i64 o.lb : Value) := R0.out.cell (i := 3) (by omega)
  have y2 : _ = some (.int .i64 o.la : Value) := R1.out.cell (i := 2) (by omega)
  have y3 : _ = some (.int .i64 o.lb : Value) := R1.out.cell (i := 3) (by omega)
  go_wp2_with fail
  refine (eqExt_any o.la o.lb _).mono ?_
  rintro e W3 ⟨rfl, k3⟩
  have G3 := hik (G2.out.trans k3)
  replace R0 := hik (rowIs_keep R0.out k3)
  replace R1 := hik (rowIs_keep R1.out k3)
  clear k3 x2 x3 y2 y3
  have x4 : _ = some (.int .i64 o.no : Value) := R0.out.cell (i := 4) (by omega)
  have y4 : _ = some (.int .i64 o.no : Value) := R1.out.cell (i := 4) (by omega)
  have x5 : _ = some (.slice cQ o.nq pQ : Value) := R0.out.cell (i := 5) (by omega)
  have y5 : _ = some (.slice cQ' o.nq pQ' : Value) := R1.out.cell (i := 5) (by omega)
  go_wp2_with fail
  refine (eqQueryS_d cQ cQ' o.nq pQ pQ' o.q _ (hik (h.out.2.2.keep G3.out)) (hik (h'.out.2.2.keep G3.out)) (hik hs.out.2.2)).mono ?_
  rintro e W4 ⟨rfl, k4⟩
  have G4 := hik (G3.out.trans k4)
  clear k4 x4 y4 x5 y5
  go_wp2
  go_ret
  exact ⟨rfl, G4.out⟩

end Go.Proofs.Ytfgnhaoonpknlaa

namespace Go.Proofs.Ytfgnhaoonpknlaa
open Go.ChangeShapes Go.WideShapes Go.ChangeAt Go.RowKit
set_option linter.unusedVariables false
set_option maxRecDepth 100000
set_option linter.unusedSimpArgs false
set_option maxHeartbeats 8000000 in
theorem walkReadOpening (c0 : Option Addr) (len0 cap0 : Nat) (z0 : Nat → Int) (a1 : Int) (a2 b2 d2 : Int) (w : World) (w0 : RowV w c0 len0 (bw z0)) (bg0 : (∀ j, 0 ≤ z0 j ∧ z0 j < 256) ∧ len0 ≤ 9223372036854775807) :
    Calls Try.prog 3 #[.slice c0 len0 cap0, .int .i64 a1, .agg #[.int .i64 a2, .int .i64 b2, .int .i64 d2]] w fun e w' => e = .returned (.bool true) ∧ Below w.heap.size w w' := by
  have V0 := hik w0
  have HZ := hik bg0.1
  have hl0 := bg0.2
  clear w0 bg0
  have K0 := hik ((Chg.refl nob w).alloc (.cells #[.int .i64 a2, .int .i64 b2, .int .i64 d2] 24))
  have RT := hik (rowN_new w 3 #[.int .i64 a2, .int .i64 b2, .int .i64 d2] 24 rfl)
  have s0 := hik (show w.heap.size + 1 ≤ (w.alloc (.cells #[.int .i64 a2, .int .i64 b2, .int .i64 d2] 24)).heap.size by simp)
  by_cases hm : 1048576 < len0
  · have hm' : (1048576 : Int) < (len0 : Int) := by omega
    go_enter Try.func3, Try.ntmps3
    go_wp2_with fail
    go_ret
    exact ⟨rfl, K0.out.toBelow⟩
  have hm' : ¬ (1048576 : Int) < (len0 : Int) := by omega
  have HN := hik (show len0 ≤ 1048576 by omega)
  have HSC := hik (fun (c : Option Addr) (cap : Nat) (w' : World) (h : Hid (RowV w' c len0 (bw z0))) => sReadOpening_any c len0 cap z0 a1 a2 b2 d2 w' h HZ (by omega))
  have HI := hik (fun (c : Option Addr) (cap : Nat) (w' : World) (h : Hid (RowV w' c len0 (bw z0))) (hcap : len0 ≤ cap) (hc : (cap : Int) ≤ 9223372036854775807) => readOpening_any c len0 cap z0 a1 a2 b2 d2 w' h HZ (by omega) hcap hc)
  have hsm := rov_small len0 z0 a1 a2 b2 d2
  generalize roc len0 z0 a1 a2 b2 d2 = cd at HSC HI
  generalize rov len0 z0 a1 a2 b2 d2 = D at HSC HI hsm
  have HSM := hik hsm.1
  have hmc := hsm.2
  have HMC := hik hmc
  clear hsm hmc
  go_enter Try.func3, Try.ntmps3
  go_upto_region 3 with fail
  generalize hW : w.alloc (.cells #[.int .i64 a2, .int .i64 b2, .int .i64 d2] 24) = W0 at K0 RT s0 ⊢
  clear hW hm hm'
  go_cut [7, 8] (fun pp qq W => ∃ (aS : OA) (gZ lo hi : Nat), pp = .pointer (some ⟨gZ, 0, none⟩) ∧ qq = .int .i64 cd ∧ Hid (OpF W (Iv lo hi) D aS.cR aS.pR aS.cT aS.pT aS.cQ aS.pQ) ∧ Hid (W.rowIs gZ 31 6 (fun i => (#[.slice aS.cR D.nr aS.pR, .slice aS.cT D.nt aS.pT, .int .i64 D.la, .int .i64 D.lb, .int .i64 D.no, .slice aS.cQ D.nq aS.pQ] : Array Value).getD i undef)) ∧ Hid (Chg nob W0 W) ∧ Hid (W0.heap.size ≤ gZ ∧ W0.heap.size ≤ lo ∧ ¬ (lo ≤ gZ ∧ gZ < hi) ∧ lo ≤ hi ∧ hi ≤ W.heap.size))
  case first =>
    focus
      have xRT0 : W0.cell? ⟨w.heap.size, 0, none⟩ = some (.int .i64 a2) := RT.out.cell (i := 0) (by omega)
      have xRT1 : W0.cell? ⟨w.heap.size, 1, none⟩ = some (.int .i64 b2) := RT.out.cell (i := 1) (by omega)
      have xRT2 : W0.cell? ⟨w.heap.size, 2, none⟩ = some (.int .i64 d2) := RT.out.cell (i := 2) (by omega)
      have zRT := RT.out.lt
      have SA := hik (fun (WW : World) (kW : Chg nob W0 WW) => (show (WW.cell? ⟨w.heap.size, 0, none⟩ = some (.int .i64 a2) ∧ WW.cell? ⟨w.heap.size, 1, none⟩ = some (.int .i64 b2) ∧ WW.cell? ⟨w.heap.size, 2, none⟩ = some (.int .i64 d2)) from ⟨kW.see xRT0, kW.see xRT1, kW.see xRT2⟩))
      refine wp_regionC [⟨9, 7, .cells #[.slice none 0 0, .slice none 0 0, .int .i64 0, .int .i64 0, .int .i64 0, .slice none 0 0] 31, fun b => .pointer (some ⟨b, 0, none⟩)⟩] 11 (by kernel_rfl) (by rfl) (by rfl) (by kernel_rfl) ?_
      refine wpC_take (i := 0) (v := ?_) rfl (by kernel_rfl) (by kernel_rfl) (by rfl) (fun _ _ _ h => h) (fun u => Or.inl ⟨by rfl, ?_⟩) ?_
      rotate_left 1
      · (intro w' hSw; have hSw := SA.out _ hSw; (try dsimp only at hSw); try simp only [putF, Act.put, List.setIfInBounds_toArray, List.set_cons_zero, List.set_cons_succ, List.getElem_toArray, List.getElem_cons_zero, List.getElem_cons_succ]; go_simp; try with_reducible rfl)
      try simp only [Act.put, List.setIfInBounds_toArray, List.set_cons_zero, List.set_cons_succ, List.getElem_toArray, List.getElem_cons_zero, List.getElem_cons_succ]
      refine wpC_take (i := 2) (v := ?_) rfl (by kernel_rfl) (by kernel_rfl) (by rfl) (fun _ _ _ h => h) (fun u => Or.inl ⟨by rfl, ?_⟩) ?_
      rotate_left 1
      · (intro w' hSw; have hSw := SA.out _ hSw; (try dsimp only at hSw); try simp only [putF, Act.put, List.setIfInBounds_toArray, List.set_cons_zero, List.set_cons_succ, List.getElem_toArray, List.getElem_cons_zero, List.getElem_cons_succ]; go_simp; try with_reducible rfl)
      try simp only [Act.put, List.setIfInBounds_toArray, List.set_cons_zero, List.set_cons_succ, List.getElem_toArray, List.getElem_cons_zero, List.getElem_cons_succ]
      refine wpC_take (i := 3) (v := ?_) rfl (by kernel_rfl) (by kernel_rfl) (by rfl) (fun _ _ _ h => h) (fun u => Or.inl ⟨by rfl, ?_⟩) ?_
      rotate_left 1
      · (intro w' hSw; have hSw := SA.out _ hSw; (try dsimp only at hSw); try simp only [putF, Act.put, List.setIfInBounds_toArray, List.set_cons_zero, List.set_cons_succ, List.getElem_toArray, List.getElem_cons_zero, List.getElem_cons_succ]; go_simp; try with_reducible rfl)
      try simp only [Act.put, List.setIfInBounds_toArray, List.set_cons_zero, List.set_cons_succ, List.getElem_toArray, List.getElem_cons_zero, List.getElem_cons_succ]
      refine wpC_step (i := 1) rfl (by kernel_rfl) (by rfl) (List.forall_mem_cons.2 ⟨FloOK.alloc rfl 31 rfl rfl rfl (fun w => by go_simp), (fun _ h => absurd h List.not_mem_nil)⟩) (by rfl) ?_
      intro bb gg uu U1' hrd hB k0 kW K' hK
      clear hrd hB
      have KW := hik k0
      clear kW k0
      refine stepL_callN 5 #[.tmp 21] #[22] (by rfl) (by rfl) #[.slice c0 len0 cap0] (by (try simp only [putF, Act.put, List.setIfInBounds_toArray, List.set_cons_zero, List.set_cons_succ, List.getElem_toArray, List.getElem_cons_zero, List.getElem_cons_succ]); simp only [List.map_toArray, List.map_cons, List.map_nil] <;> rfl) (run_go Try.func5 (by kernel_rfl) (by kernel_rfl) _ _) (toByteS_any c0 len0 cap0 z0 _ (hik (V0.out.keep (K0.out.trans KW.out))) (by have := HN.out; omega)) ?_
      rintro e U1 ⟨he, ri, kk⟩
      generalize hxb : (U1').heap.size = xb at he ri
      clear hxb
      have IY := hik (RowV.of_row ri (Nat.le_refl _))
      clear ri
      refine ⟨_, he, hK _ _ kk ?_⟩
      have hsU1 := hik kk.size
      clear he kk hK K' KW bb gg uu
      try simp only [Act.put, List.setIfInBounds_toArray, List.set_cons_zero, List.set_cons_succ, List.getElem_toArray, List.getElem_cons_zero, List.getElem_cons_succ]
      refine wpC_step (i := 4) rfl (by kernel_rfl) (by rfl) (List.forall_mem_cons.2 ⟨FloOK.alloc rfl 31 rfl rfl rfl (fun w => by go_simp), (fun _ h => absurd h List.not_mem_nil)⟩) (by rfl) ?_
      intro bb gg uu U2' hrd hB k0 kW K' hK
      clear hrd hB
      have KW := hik k0
      replace IY := hik (IY.out.keep kW)
      clear kW k0
      refine stepL_callN 6 #[.tmp 24] #[24] (by rfl) (by rfl) #[.agg #[.int .i64 a2, .int .i64 b2, .int .i64 d2]] (by (try simp only [putF, Act.put, List.setIfInBounds_toArray, List.set_cons_zero, List.set_cons_succ, List.getElem_toArray, List.getElem_cons_zero, List.getElem_cons_succ]); simp only [List.map_toArray, List.map_cons, List.map_nil] <;> rfl) (run_go Try.func6 (by kernel_rfl) (by kernel_rfl) _ _) (toSetting_any a2 b2 d2 _) ?_
      rintro e U2 ⟨he, kk⟩
      replace IY := hik (IY.out.keep kk)
      refine ⟨_, he, hK _ _ kk ?_⟩
      have hsU2 := hik kk.size
      clear he kk hK K' KW bb gg uu
      try simp only [Act.put, List.setIfInBounds_toArray, List.set_cons_zero, List.set_cons_succ, List.getElem_toArray, List.getElem_cons_zero, List.getElem_cons_succ]
      refine wpC_step (i := 5) rfl (by kernel_rfl) (by rfl) (List.forall_mem_cons.2 ⟨FloOK.alloc rfl 31 rfl rfl rfl (fun w => by go_simp), (fun _ h => absurd h List.not_mem_nil)⟩) (by rfl) ?_
      intro bb gg uu U3' hrd hB k0 kW K' hK
      clear hrd hB
      have KW := hik k0
      replace IY := hik (IY.out.keep kW)
      clear kW k0
      refine stepL_callN 4 #[.tmp 22, .tmp 23, .tmp 25] #[22, 3, 35] (by rfl) (by rfl) #[.slice (some ⟨xb, 0, none⟩) len0 len0, .int .i64 a1, .agg #[.int .i64 a2, .int .i64 b2, .int .i64 d2]] (by (try simp only [putF, Act.put, List.setIfInBounds_toArray, List.set_cons_zero, List.set_cons_succ, List.getElem_toArray, List.getElem_cons_zero, List.getElem_cons_succ]); simp only [List.map_toArray, List.map_cons, List.map_nil] <;> rfl) (run_go Try.func4 (by kernel_rfl) (by kernel_rfl) _ _) (HSC.out (some ⟨xb, 0, none⟩) len0 _ IY) ?_
      rintro e U3 ⟨aS, he, rS, kk⟩
      replace IY := hik (IY.out.keep kk)
      have OS := hik rS
      have HLO := hik (show W0.heap.size ≤ U3'.heap.size from KW.out.size)
      clear rS
      refine ⟨_, he, hK _ _ kk ?_⟩
      have hsU3 := hik kk.size
      clear he kk hK K' KW bb gg uu
      try simp only [Act.put, List.setIfInBounds_toArray, List.set_cons_zero, List.set_cons_succ, List.getElem_toArray, List.getElem_cons_zero, List.getElem_cons_succ]
      refine wpC_take (i := 6) (v := ?_) rfl (by kernel_rfl) (by kernel_rfl) (by rfl) (fun _ _ _ h => h) (fun u => Or.inl ⟨by rfl, ?_⟩) ?_
      rotate_left 1
      · (intro w' hSw; have hSw := SA.out _ hSw; (try dsimp only at hSw); try simp only [putF, Act.put, List.setIfInBounds_toArray, List.set_cons_zero, List.set_cons_succ, List.getElem_toArray, List.getElem_cons_zero, List.getElem_cons_succ]; go_simp; try with_reducible rfl)
      try simp only [Act.put, List.setIfInBounds_toArray, List.set_cons_zero, List.set_cons_succ, List.getElem_toArray, List.getElem_cons_zero, List.getElem_cons_succ]
      refine wpC_take (i := 7) (v := ?_) rfl (by kernel_rfl) (by kernel_rfl) (by rfl) (fun _ _ _ h => h) (fun u => Or.inl ⟨by rfl, ?_⟩) ?_
      rotate_left 1
      · (intro w' hSw; have hSw := SA.out _ hSw; (try dsimp only at hSw); try simp only [putF, Act.put, List.setIfInBounds_toArray, List.set_cons_zero, List.set_cons_succ, List.getElem_toArray, List.getElem_cons_zero, List.getElem_cons_succ]; go_simp; try with_reducible rfl)
      try simp only [Act.put, List.setIfInBounds_toArray, List.set_cons_zero, List.set_cons_succ, List.getElem_toArray, List.getElem_cons_zero, List.getElem_cons_succ]
      refine wpC_take (i := 8) (v := ?_) rfl (by kernel_rfl) (by kernel_rfl) (by rfl) (fun _ _ _ h => h) (fun u => Or.inl ⟨by rfl, ?_⟩) ?_
      rotate_left 1
      · (intro w' hSw; have hSw := SA.out _ hSw; (try dsimp only at hSw); try simp only [putF, Act.put, List.setIfInBounds_toArray, List.set_cons_zero, List.set_cons_succ, List.getElem_toArray, List.getElem_cons_zero, List.getElem_cons_succ]; go_simp; try with_reducible rfl)
      try simp only [Act.put, List.setIfInBounds_toArray, List.set_cons_zero, List.set_cons_succ, List.getElem_toArray, List.getElem_cons_zero, List.getElem_cons_succ]
      refine wpC_all (by kernel_rfl) (by rfl) (List.forall_mem_cons.2 ⟨FloOK.alloc rfl 31 rfl rfl rfl (fun w => by go_simp), (fun _ h => absurd h List.not_mem_nil)⟩) ?_
      intro gg uu Uz hB k0 kW
      have KW := hik k0
      have HTOP := hik kW.size
      replace IY := hik (IY.out.keep kW)
      replace OS := hik (OS.out.keep kW)
      obtain ⟨eu0, hg0, hl0, hc0, ha0, hd0⟩ := hB 0 _ rfl rfl
      have eu0 : uu 0 = .pointer (some ⟨gg 0, 0, none⟩) := eu0
      have BX0 := hik (rowN_at (n := 6) hc0 rfl)
      clear hd0 hc0 hl0
      clear hB kW
      generalize gg 0 = g0 at eu0 hg0 ha0 BX0
      refine wpAnyH_as (fuel' := 2) rfl (listed' := #[true, true, true, true, true, true, true, true, true, true, false, false]) (by kernel_rfl) ?_
      simp only [putF, eu0, Act.put, List.setIfInBounds_toArray, List.set_cons_zero, List.set_cons_succ, List.getElem_toArray, List.getElem_cons_zero, List.getElem_cons_succ]
      clear eu0
      have hHeld := k0
      clear k0
      refine wpAnyH_ready (rs := [10]) (by kernel_rfl) (by simp) ?_
      refine AllReadyH.cons rfl (fun K hK => ?_) AllReadyH.nil
      have yy0 : Uz.cell? ⟨g0, 0, none⟩ = some (.slice none 0 0) := BX0.out.cell (i := 0) (by omega)
      have fz0 := BX0.out.frozen 0
      have yy1 : Uz.cell? ⟨g0, 1, none⟩ = some (.slice none 0 0) := BX0.out.cell (i := 1) (by omega)
      have fz1 := BX0.out.frozen 1
      have yy2 : Uz.cell? ⟨g0, 2, none⟩ = some (.int .i64 0) := BX0.out.cell (i := 2) (by omega)
      have fz2 := BX0.out.frozen 2
      have yy3 : Uz.cell? ⟨g0, 3, none⟩ = some (.int .i64 0) := BX0.out.cell (i := 3) (by omega)
      have fz3 := BX0.out.frozen 3
      have yy4 : Uz.cell? ⟨g0, 4, none⟩ = some (.int .i64 0) := BX0.out.cell (i := 4) (by omega)
      have fz4 := BX0.out.frozen 4
      have yy5 : Uz.cell? ⟨g0, 5, none⟩ = some (.slice none 0 0) := BX0.out.cell (i := 5) (by omega)
      have fz5 := BX0.out.frozen 5
      have l7 := BX0.out.lt
      have C7 := hik ((((((((Chg.refl (fun b => b = g0) Uz).setCell (p := ⟨g0, 0, none⟩) (fun _ => rfl) (.slice aS.cR D.nr aS.pR)).setCell (p := ⟨g0, 1, none⟩) (fun _ => rfl) (.slice aS.cT D.nt aS.pT)).setCell (p := ⟨g0, 2, none⟩) (fun _ => rfl) (.int .i64 D.la)).setCell (p := ⟨g0, 3, none⟩) (fun _ => rfl) (.int .i64 D.lb)).setCell (p := ⟨g0, 4, none⟩) (fun _ => rfl) (.int .i64 D.no)).setCell (p := ⟨g0, 5, none⟩) (fun _ => rfl) (.slice aS.cQ D.nq aS.pQ)))
      simp only [List.getElem_toArray, List.getElem_cons_zero, List.getElem_cons_succ]
      go_simp
      replace KW := hik (((((((KW.out.setCell (p := ⟨g0, 0, none⟩) (fun l => absurd (show g0 < W0.heap.size from l) (by omega)) (.slice aS.cR D.nr aS.pR)).setCell (p := ⟨g0, 1, none⟩) (fun l => absurd (show g0 < W0.heap.size from l) (by omega)) (.slice aS.cT D.nt aS.pT)).setCell (p := ⟨g0, 2, none⟩) (fun l => absurd (show g0 < W0.heap.size from l) (by omega)) (.int .i64 D.la)).setCell (p := ⟨g0, 3, none⟩) (fun l => absurd (show g0 < W0.heap.size from l) (by omega)) (.int .i64 D.lb)).setCell (p := ⟨g0, 4, none⟩) (fun l => absurd (show g0 < W0.heap.size from l) (by omega)) (.int .i64 D.no)).setCell (p := ⟨g0, 5, none⟩) (fun l => absurd (show g0 < W0.heap.size from l) (by omega)) (.slice aS.cQ D.nq aS.pQ)))
      refine hK.out _ _ KW.out (fun hHeld => ?_)
      clear hK K
      try simp only [Act.put, List.setIfInBounds_toArray, List.set_cons_zero, List.set_cons_succ, List.getElem_toArray, List.getElem_cons_zero, List.getElem_cons_succ]
      clear yy0 fz0 yy1 fz1 yy2 fz2 yy3 fz3 yy4 fz4 yy5 fz5 l7
      replace OS := hik (OS.out.chg C7.out (fun c hc e => ha0 (.inr ⟨by rw [← show c = g0 from e]; exact hc.1, by rw [← show c = g0 from e]; exact hc.2⟩)))
      have RB0 : Hid (World.rowIs _ g0 31 6 (fun i => (#[.slice aS.cR D.nr aS.pR, .slice aS.cT D.nt aS.pT, .int .i64 D.la, .int .i64 D.lb, .int .i64 D.no, .slice aS.cQ D.nq aS.pQ] : Array Value).getD i undef)) := hik (((((((BX0.out.set 0 (.slice aS.cR D.nr aS.pR)).set 1 (.slice aS.cT D.nt aS.pT)).set 2 (.int .i64 D.la)).set 3 (.int .i64 D.lb)).set 4 (.int .i64 D.no)).set 5 (.slice aS.cQ D.nq aS.pQ)).congr (fun i hi => by rcases (show i = 0 ∨ i = 1 ∨ i = 2 ∨ i = 3 ∨ i = 4 ∨ i = 5 by omega) with rfl | rfl | rfl | rfl | rfl | rfl <;> rfl))
      replace HTOP := hik (Nat.le_trans HTOP.out C7.out.size)
      clear C7 BX0
      generalize hUS : ((((((Uz.setCell ⟨g0, 0, none⟩ (.slice aS.cR D.nr aS.pR)).setCell ⟨g0, 1, none⟩ (.slice aS.cT D.nt aS.pT)).setCell ⟨g0, 2, none⟩ (.int .i64 D.la)).setCell ⟨g0, 3, none⟩ (.int .i64 D.lb)).setCell ⟨g0, 4, none⟩ (.int .i64 D.no)).setCell ⟨g0, 5, none⟩ (.slice aS.cQ D.nq aS.pQ)) = Us1 at RB0 KW hHeld OS HTOP ⊢
      clear hUS
      refine wpAnyH_take (i := 11) (v := ?_) rfl (by kernel_rfl) (by kernel_rfl) (by kernel_rfl) (fun _ _ _ h => h) (Or.inl ⟨by rfl, ?_⟩) (by assumption) ?_
      rotate_left 1
      · (intro w' hSw; (try dsimp only at hSw); go_simp; try with_reducible rfl)
      try simp only [Act.put, List.setIfInBounds_toArray, List.set_cons_zero, List.set_cons_succ, List.getElem_toArray, List.getElem_cons_zero, List.getElem_cons_succ]
      refine wpAnyH_done (by kernel_rfl) ?_ _
      have R1 := hik (show World.rowIs _ g0 31 6 (fun i => (#[.slice aS.cR D.nr aS.pR, .slice aS.cT D.nt aS.pT, .int .i64 D.la, .int .i64 D.lb, .int .i64 D.no, .slice aS.cQ D.nq aS.pQ] : Array Value).getD i undef) from RB0.out)
      clear SA RB0
      go_wp2_with fail
      go_meet
      exact ⟨aS, g0, U3'.heap.size, U3.heap.size, rfl, rfl, OS, R1, KW, hik ⟨hg0, HLO.out, fun x => ha0 (.inr x), hsU3.out, HTOP.out⟩⟩
  case rest =>
    as_aux_lemma =>
      obtain ⟨aw, gw, low, hiw, rfl, rfl, Ow, Rw, KW, Bw⟩ := hcut
      rename World => W1
      have s1 := hik KW.out.size
      replace K0 := hik (K0.out.trans KW.out)
      replace RT := hik (rowIs_keep RT.out KW.out)
      clear KW
      have lw := hik Rw.out.lt
      go_wp2_with fail
      refine (toByteS_any c0 len0 cap0 z0 _ (hik (V0.out.keep K0.out)) (by have := HN.out; omega)).mono ?_
      rintro e W2 ⟨rfl, ri, kk⟩
      have s2 := hik kk.size
      replace K0 := hik (K0.out.trans kk)
      replace RT := hik (rowIs_keep RT.out kk)
      replace Ow := hik (Ow.out.keep kk)
      replace Rw := hik (rowIs_keep Rw.out kk)
      have IX := hik ri
      have li := hik ri.lt
      clear ri
      clear kk
      generalize hgi : W1.heap.size = gi at IX li ⊢
      have HGI := hik hgi
      clear hgi
      have xRT0 : W2.cell? ⟨w.heap.size, 0, none⟩ = some (.int .i64 a2) := RT.out.cell (i := 0) (by omega)
      have xRT1 : W2.cell? ⟨w.heap.size, 1, none⟩ = some (.int .i64 b2) := RT.out.cell (i := 1) (by omega)
      have xRT2 : W2.cell? ⟨w.heap.size, 2, none⟩ = some (.int .i64 d2) := RT.out.cell (i := 2) (by omega)
      have zRT := RT.out.lt
      go_wp2_with fail
      refine (toSetting_any a2 b2 d2 _).mono ?_
      rintro e W3 ⟨rfl, kk⟩
      clear xRT0 xRT1 xRT2 zRT
      have s3 := hik kk.size
      replace K0 := hik (K0.out.trans kk)
      replace RT := hik (rowIs_keep RT.out kk)
      replace Ow := hik (Ow.out.keep kk)
      replace Rw := hik (rowIs_keep Rw.out kk)
      replace IX := hik (rowIs_keep IX.out kk)
      clear kk
      go_wp2_with fail
      refine (HI.out (some ⟨gi, 0, none⟩) len0 _ (hik (RowV.of_row IX.out (Nat.le_refl _))) (Nat.le_refl _) (by have := HN.out; omega)).mono ?_
      rintro e W4 ⟨az, rfl, oz, kk⟩
      have s4 := hik kk.size
      replace K0 := hik (K0.out.trans kk)
      replace RT := hik (rowIs_keep RT.out kk)
      replace Ow := hik (Ow.out.keep kk)
      replace Rw := hik (rowIs_keep Rw.out kk)
      replace IX := hik (rowIs_keep IX.out kk)
      have Oz := hik oz
      clear oz
      clear kk
      obtain ⟨loz, hlz⟩ : ∃ x, x = W3.heap.size := ⟨_, rfl⟩
      obtain ⟨hiz, hhz⟩ : ∃ x, x = W4.heap.size := ⟨_, rfl⟩
      rw [← hlz, ← hhz] at Oz
      have HLZ := hik (And.intro hlz hhz)
      clear hlz hhz
      go_upto_region 6 with fail
      have kk := (Chg.refl nob W4).alloc (.cells #[.slice az.cR D.nr az.pR, .slice az.cT D.nt az.pT, .int .i64 D.la, .int .i64 D.lb, .int .i64 D.no, .slice az.cQ D.nq az.pQ] 31)
      have Rz := hik (rowN_new W4 6 #[.slice az.cR D.nr az.pR, .slice az.cT D.nt az.pT, .int .i64 D.la, .int .i64 D.lb, .int .i64 D.no, .slice az.cQ D.nq az.pQ] 31 rfl)
      have s5 := hik (show W4.heap.size + 1 = (W4.alloc (.cells #[.slice az.cR D.nr az.pR, .slice az.cT D.nt az.pT, .int .i64 D.la, .int .i64 D.lb, .int .i64 D.no, .slice az.cQ D.nq az.pQ] 31)).heap.size by simp)
      replace K0 := hik (K0.out.trans kk)
      replace RT := hik (rowIs_keep RT.out kk)
      replace Ow := hik (Ow.out.keep kk)
      replace Rw := hik (rowIs_keep Rw.out kk)
      replace IX := hik (rowIs_keep IX.out kk)
      replace Oz := hik (Oz.out.keep kk)
      clear kk
      generalize hE : W4.alloc (.cells #[.slice az.cR D.nr az.pR, .slice az.cT D.nt az.pT, .int .i64 D.la, .int .i64 D.lb, .int .i64 D.no, .slice az.cQ D.nq az.pQ] 31) = W5 at K0 RT Ow Rw IX Oz Rz s5 ⊢
      clear hE
      obtain ⟨gz, hg_⟩ : ∃ x, x = W4.heap.size := ⟨_, rfl⟩
      rw [← hg_] at Rz
      rw [← hg_]
      have Hgz := hik hg_
      clear hg_
      have xRz0 : W5.cell? ⟨gz, 0, none⟩ = some (.slice az.cR D.nr az.pR) := Rz.out.cell (i := 0) (by omega)
      have xRz1 : W5.cell? ⟨gz, 1, none⟩ = some (.slice az.cT D.nt az.pT) := Rz.out.cell (i := 1) (by omega)
      have xRz2 : W5.cell? ⟨gz, 2, none⟩ = some (.int .i64 D.la) := Rz.out.cell (i := 2) (by omega)
      have xRz3 : W5.cell? ⟨gz, 3, none⟩ = some (.int .i64 D.lb) := Rz.out.cell (i := 3) (by omega)
      have xRz4 : W5.cell? ⟨gz, 4, none⟩ = some (.int .i64 D.no) := Rz.out.cell (i := 4) (by omega)
      have xRz5 : W5.cell? ⟨gz, 5, none⟩ = some (.slice az.cQ D.nq az.pQ) := Rz.out.cell (i := 5) (by omega)
      have zRz := Rz.out.lt
      have xRw0 : W5.cell? ⟨gw, 0, none⟩ = some (.slice aw.cR D.nr aw.pR) := Rw.out.cell (i := 0) (by omega)
      have xRw1 : W5.cell? ⟨gw, 1, none⟩ = some (.slice aw.cT D.nt aw.pT) := Rw.out.cell (i := 1) (by omega)
      have xRw2 : W5.cell? ⟨gw, 2, none⟩ = some (.int .i64 D.la) := Rw.out.cell (i := 2) (by omega)
      have xRw3 : W5.cell? ⟨gw, 3, none⟩ = some (.int .i64 D.lb) := Rw.out.cell (i := 3) (by omega)
      have xRw4 : W5.cell? ⟨gw, 4, none⟩ = some (.int .i64 D.no) := Rw.out.cell (i := 4) (by omega)
      have xRw5 : W5.cell? ⟨gw, 5, none⟩ = some (.slice aw.cQ D.nq aw.pQ) := Rw.out.cell (i := 5) (by omega)
      have zRw := Rw.out.lt
      go_wp2_with fail
      refine (eqOpening_d D az.cR az.pR az.cT az.pT az.cQ az.pQ aw.cR aw.pR aw.cT aw.pT aw.cQ aw.pQ _ (hik Oz.out.rep) (hik Ow.out.rep) HSM).mono ?_
      rintro e W6 ⟨rfl, kk⟩
      clear xRz0 xRz1 xRz2 xRz3 xRz4 xRz5 zRz xRw0 xRw1 xRw2 xRw3 xRw4 xRw5 zRw
      have s6 := hik kk.size
      replace K0 := hik (K0.out.trans kk)
      replace RT := hik (rowIs_keep RT.out kk)
      replace Ow := hik (Ow.out.keep kk)
      replace Rw := hik (rowIs_keep Rw.out kk)
      replace IX := hik (rowIs_keep IX.out kk)
      replace Oz := hik (Oz.out.keep kk)
      replace Rz := hik (rowIs_keep Rz.out kk)
      clear kk
      go_wp2_with fail
      refine (toByteS_any c0 len0 cap0 z0 _ (hik (V0.out.keep K0.out)) (by have := HN.out; omega)).mono ?_
      rintro e W7 ⟨rfl, ry, kk⟩
      have s7 := hik kk.size
      replace K0 := hik (K0.out.trans kk)
      replace RT := hik (rowIs_keep RT.out kk)
      replace Ow := hik (Ow.out.keep kk)
      replace Rw := hik (rowIs_keep Rw.out kk)
      replace IX := hik (rowIs_keep IX.out kk)
      replace Oz := hik (Oz.out.keep kk)
      replace Rz := hik (rowIs_keep Rz.out kk)
      have IB := hik ry
      clear ry
      clear kk
      go_wp2_with fail
      refine (eqByteS_any (some ⟨gi, 0, none⟩) _ len0 len0 len0 len0 z0 z0 _ (hik (RowV.of_row IX.out (Nat.le_refl _))) (hik (RowV.of_row IB.out (Nat.le_refl _))) rfl (fun _ _ => rfl) (by have := HN.out; omega)).mono ?_
      rintro e W8 ⟨rfl, kk⟩
      have s8 := hik kk.size
      replace K0 := hik (K0.out.trans kk)
      replace RT := hik (rowIs_keep RT.out kk)
      replace Ow := hik (Ow.out.keep kk)
      replace Rw := hik (rowIs_keep Rw.out kk)
      replace IX := hik (rowIs_keep IX.out kk)
      replace Oz := hik (Oz.out.keep kk)
      replace Rz := hik (rowIs_keep Rz.out kk)
      clear IB
      clear kk
      go_wp2_with fail
      refine (markByteM_any (some ⟨gi, 0, none⟩) len0 len0 gi (gi + 1) _ _ (hik (.inr ⟨gi, rfl, Nat.le_refl _, Nat.lt_succ_self _, ⟨IX.out.lt, fun i hi => IX.out.cell hi, fun i hi => IX.out.frozen i⟩⟩)) (by have := HN.out; omega)).mono ?_
      rintro e W9 ⟨rfl, _, kk⟩
      have s9 := hik kk.size
      replace K0 := hik (K0.out.near kk (fun b m => by have m9 : gi ≤ _ ∧ _ < gi + 1 := m; have := s0.out; have := s1.out; have := Bw.out; have := lw.out; have := s2.out; have := HGI.out; have := li.out; have := s3.out; have := s4.out; have := HLZ.out; have := s5.out; have := Hgz.out; have := s6.out; have := s7.out; have := s8.out; have := s9.out; omega))
      replace RT := hik (rowIs_chg RT.out kk (fun m => by have m9 : gi ≤ _ ∧ _ < gi + 1 := m; have := s0.out; have := s1.out; have := Bw.out; have := lw.out; have := s2.out; have := HGI.out; have := li.out; have := s3.out; have := s4.out; have := HLZ.out; have := s5.out; have := Hgz.out; have := s6.out; have := s7.out; have := s8.out; have := s9.out; omega))
      replace Ow := hik (Ow.out.chg kk (fun b hb m => by unfold Iv at hb; have m9 : gi ≤ _ ∧ _ < gi + 1 := m; have := s0.out; have := s1.out; have := Bw.out; have := lw.out; have := s2.out; have := HGI.out; have := li.out; have := s3.out; have := s4.out; have := HLZ.out; have := s5.out; have := Hgz.out; have := s6.out; have := s7.out; have := s8.out; have := s9.out; omega))
      replace Rw := hik (rowIs_chg Rw.out kk (fun m => by have m9 : gi ≤ _ ∧ _ < gi + 1 := m; have := s0.out; have := s1.out; have := Bw.out; have := lw.out; have := s2.out; have := HGI.out; have := li.out; have := s3.out; have := s4.out; have := HLZ.out; have := s5.out; have := Hgz.out; have := s6.out; have := s7.out; have := s8.out; have := s9.out; omega))
      replace Oz := hik (Oz.out.chg kk (fun b hb m => by unfold Iv at hb; have m9 : gi ≤ _ ∧ _ < gi + 1 := m; have := s0.out; have := s1.out; have := Bw.out; have := lw.out; have := s2.out; have := HGI.out; have := li.out; have := s3.out; have := s4.out; have := HLZ.out; have := s5.out; have := Hgz.out; have := s6.out; have := s7.out; have := s8.out; have := s9.out; omega))
      replace Rz := hik (rowIs_chg Rz.out kk (fun m => by have m9 : gi ≤ _ ∧ _ < gi + 1 := m; have := s0.out; have := s1.out; have := Bw.out; have := lw.out; have := s2.out; have := HGI.out; have := li.out; have := s3.out; have := s4.out; have := HLZ.out; have := s5.out; have := Hgz.out; have := s6.out; have := s7.out; have := s8.out; have := s9.out; omega))
      clear IX
      clear kk
      have hq1 : ¬ (1 : Int) + (len0 : Int) < 0 := by omega
      have xRz0 : W9.cell? ⟨gz, 0, none⟩ = some (.slice az.cR D.nr az.pR) := Rz.out.cell (i := 0) (by omega)
      have xRz1 : W9.cell? ⟨gz, 1, none⟩ = some (.slice az.cT D.nt az.pT) := Rz.out.cell (i := 1) (by omega)
      have xRz2 : W9.cell? ⟨gz, 2, none⟩ = some (.int .i64 D.la) := Rz.out.cell (i := 2) (by omega)
      have xRz3 : W9.cell? ⟨gz, 3, none⟩ = some (.int .i64 D.lb) := Rz.out.cell (i := 3) (by omega)
      have xRz4 : W9.cell? ⟨gz, 4, none⟩ = some (.int .i64 D.no) := Rz.out.cell (i := 4) (by omega)
      have xRz5 : W9.cell? ⟨gz, 5, none⟩ = some (.slice az.cQ D.nq az.pQ) := Rz.out.cell (i := 5) (by omega)
      have zRz := Rz.out.lt
      have xRw0 : W9.cell? ⟨gw, 0, none⟩ = some (.slice aw.cR D.nr aw.pR) := Rw.out.cell (i := 0) (by omega)
      have xRw1 : W9.cell? ⟨gw, 1, none⟩ = some (.slice aw.cT D.nt aw.pT) := Rw.out.cell (i := 1) (by omega)
      have xRw2 : W9.cell? ⟨gw, 2, none⟩ = some (.int .i64 D.la) := Rw.out.cell (i := 2) (by omega)
      have xRw3 : W9.cell? ⟨gw, 3, none⟩ = some (.int .i64 D.lb) := Rw.out.cell (i := 3) (by omega)
      have xRw4 : W9.cell? ⟨gw, 4, none⟩ = some (.int .i64 D.no) := Rw.out.cell (i := 4) (by omega)
      have xRw5 : W9.cell? ⟨gw, 5, none⟩ = some (.slice aw.cQ D.nq aw.pQ) := Rw.out.cell (i := 5) (by omega)
      have zRw := Rw.out.lt
      go_wp2_with fail
      refine (eqOpening_d D az.cR az.pR az.cT az.pT az.cQ az.pQ aw.cR aw.pR aw.cT aw.pT aw.cQ aw.pQ _ (hik Oz.out.rep) (hik Ow.out.rep) HSM).mono ?_
      rintro e W10 ⟨rfl, kk⟩
      clear xRz0 xRz1 xRz2 xRz3 xRz4 xRz5 zRz xRw0 xRw1 xRw2 xRw3 xRw4 xRw5 zRw
      have s10 := hik kk.size
      replace K0 := hik (K0.out.trans kk)
      replace RT := hik (rowIs_keep RT.out kk)
      replace Ow := hik (Ow.out.keep kk)
      replace Rw := hik (rowIs_keep Rw.out kk)
      replace Oz := hik (Oz.out.keep kk)
      replace Rz := hik (rowIs_keep Rz.out kk)
      clear kk
      have xRz0 : W10.cell? ⟨gz, 0, none⟩ = some (.slice az.cR D.nr az.pR) := Rz.out.cell (i := 0) (by omega)
      have xRz1 : W10.cell? ⟨gz, 1, none⟩ = some (.slice az.cT D.nt az.pT) := Rz.out.cell (i := 1) (by omega)
      have xRz2 : W10.cell? ⟨gz, 2, none⟩ = some (.int .i64 D.la) := Rz.out.cell (i := 2) (by omega)
      have xRz3 : W10.cell? ⟨gz, 3, none⟩ = some (.int .i64 D.lb) := Rz.out.cell (i := 3) (by omega)
      have xRz4 : W10.cell? ⟨gz, 4, none⟩ = some (.int .i64 D.no) := Rz.out.cell (i := 4) (by omega)
      have xRz5 : W10.cell? ⟨gz, 5, none⟩ = some (.slice az.cQ D.nq az.pQ) := Rz.out.cell (i := 5) (by omega)
      have zRz := Rz.out.lt
      go_wp2_with fail
      refine (markOpening_f (Iv loz hiz) D az.cR az.pR az.cT az.pT az.cQ az.pQ 1 _ Oz HSM (fun c hc => by unfold Iv at hc; have := s0.out; have := s1.out; have := Bw.out; have := lw.out; have := s2.out; have := HGI.out; have := li.out; have := s3.out; have := s4.out; have := HLZ.out; have := s5.out; have := Hgz.out; have := s6.out; have := s7.out; have := s8.out; have := s9.out; have := s10.out; omega) (by omega) (by have := HMC.out; omega)).mono ?_
      rintro e W11 ⟨rfl, oz, kk⟩
      clear xRz0 xRz1 xRz2 xRz3 xRz4 xRz5 zRz
      have s11 := hik kk.size
      replace K0 := hik (K0.out.near kk (fun b m => by have m9 : loz ≤ _ ∧ _ < hiz := m; have := s0.out; have := s1.out; have := Bw.out; have := lw.out; have := s2.out; have := HGI.out; have := li.out; have := s3.out; have := s4.out; have := HLZ.out; have := s5.out; have := Hgz.out; have := s6.out; have := s7.out; have := s8.out; have := s9.out; have := s10.out; have := s11.out; omega))
      replace RT := hik (rowIs_chg RT.out kk (fun m => by have m9 : loz ≤ _ ∧ _ < hiz := m; have := s0.out; have := s1.out; have := Bw.out; have := lw.out; have := s2.out; have := HGI.out; have := li.out; have := s3.out; have := s4.out; have := HLZ.out; have := s5.out; have := Hgz.out; have := s6.out; have := s7.out; have := s8.out; have := s9.out; have := s10.out; have := s11.out; omega))
      replace Ow := hik (Ow.out.chg kk (fun b hb m => by unfold Iv at hb; have m9 : loz ≤ _ ∧ _ < hiz := m; have := s0.out; have := s1.out; have := Bw.out; have := lw.out; have := s2.out; have := HGI.out; have := li.out; have := s3.out; have := s4.out; have := HLZ.out; have := s5.out; have := Hgz.out; have := s6.out; have := s7.out; have := s8.out; have := s9.out; have := s10.out; have := s11.out; omega))
      replace Rw := hik (rowIs_chg Rw.out kk (fun m => by have m9 : loz ≤ _ ∧ _ < hiz := m; have := s0.out; have := s1.out; have := Bw.out; have := lw.out; have := s2.out; have := HGI.out; have := li.out; have := s3.out; have := s4.out; have := HLZ.out; have := s5.out; have := Hgz.out; have := s6.out; have := s7.out; have := s8.out; have := s9.out; have := s10.out; have := s11.out; omega))
      replace Rz := hik (rowIs_chg Rz.out kk (fun m => by have m9 : loz ≤ _ ∧ _ < hiz := m; have := s0.out; have := s1.out; have := Bw.out; have := lw.out; have := s2.out; have := HGI.out; have := li.out; have := s3.out; have := s4.out; have := HLZ.out; have := s5.out; have := Hgz.out; have := s6.out; have := s7.out; have := s8.out; have := s9.out; have := s10.out; have := s11.out; omega))
      replace Oz := hik oz
      clear oz
      clear kk
      have hmk : ¬ ((1 + D.mc : Nat) : Int) < 0 := by omega
      have xRz0 : W11.cell? ⟨gz, 0, none⟩ = some (.slice az.cR D.nr az.pR) := Rz.out.cell (i := 0) (by omega)
      have xRz1 : W11.cell? ⟨gz, 1, none⟩ = some (.slice az.cT D.nt az.pT) := Rz.out.cell (i := 1) (by omega)
      have xRz2 : W11.cell? ⟨gz, 2, none⟩ = some (.int .i64 D.la) := Rz.out.cell (i := 2) (by omega)
      have xRz3 : W11.cell? ⟨gz, 3, none⟩ = some (.int .i64 D.lb) := Rz.out.cell (i := 3) (by omega)
      have xRz4 : W11.cell? ⟨gz, 4, none⟩ = some (.int .i64 D.no) := Rz.out.cell (i := 4) (by omega)
      have xRz5 : W11.cell? ⟨gz, 5, none⟩ = some (.slice az.cQ D.nq az.pQ) := Rz.out.cell (i := 5) (by omega)
      have zRz := Rz.out.lt
      go_wp2_with fail
      refine (heldOpening_d D az.cR az.pR az.cT az.pT az.cQ az.pQ 1 _ (hik Oz.out.rep) HSM (by omega) (by have := HMC.out; omega)).mono ?_
      rintro e W12 ⟨rfl, kk⟩
      clear xRz0 xRz1 xRz2 xRz3 xRz4 xRz5 zRz
      have s12 := hik kk.size
      replace K0 := hik (K0.out.trans kk)
      replace RT := hik (rowIs_keep RT.out kk)
      replace Ow := hik (Ow.out.keep kk)
      replace Rw := hik (rowIs_keep Rw.out kk)
      replace Oz := hik (Oz.out.keep kk)
      replace Rz := hik (rowIs_keep Rz.out kk)
      clear kk
      go_upto_region 22 with fail
      go_cut [15, 16] (fun pp qq W => ∃ (aS : OA) (gZ lo hi : Nat), pp = .pointer (some ⟨gZ, 0, none⟩) ∧ qq = .int .i64 cd ∧ Hid (OpF W (Iv lo hi) D aS.cR aS.pR aS.cT aS.pT aS.cQ aS.pQ) ∧ Hid (W.rowIs gZ 31 6 (fun i => (#[.slice aS.cR D.nr aS.pR, .slice aS.cT D.nt aS.pT, .int .i64 D.la, .int .i64 D.lb, .int .i64 D.no, .slice aS.cQ D.nq aS.pQ] : Array Value).getD i undef)) ∧ Hid (Chg nob W12 W) ∧ Hid (W12.heap.size ≤ gZ ∧ W12.heap.size ≤ lo ∧ ¬ (lo ≤ gZ ∧ gZ < hi) ∧ lo ≤ hi ∧ hi ≤ W.heap.size))
      case first =>
        focus
          have xRT0 : W12.cell? ⟨w.heap.size, 0, none⟩ = some (.int .i64 a2) := RT.out.cell (i := 0) (by omega)
          have xRT1 : W12.cell? ⟨w.heap.size, 1, none⟩ = some (.int .i64 b2) := RT.out.cell (i := 1) (by omega)
          have xRT2 : W12.cell? ⟨w.heap.size, 2, none⟩ = some (.int .i64 d2) := RT.out.cell (i := 2) (by omega)
          have zRT := RT.out.lt
          have SA := hik (fun (WW : World) (kW : Chg nob W12 WW) => (show (WW.cell? ⟨w.heap.size, 0, none⟩ = some (.int .i64 a2) ∧ WW.cell? ⟨w.heap.size, 1, none⟩ = some (.int .i64 b2) ∧ WW.cell? ⟨w.heap.size, 2, none⟩ = some (.int .i64 d2)) from ⟨kW.see xRT0, kW.see xRT1, kW.see xRT2⟩))
          refine wp_regionC [⟨9, 15, .cells #[.slice none 0 0, .slice none 0 0, .int .i64 0, .int .i64 0, .int .i64 0, .slice none 0 0] 31, fun b => .pointer (some ⟨b, 0, none⟩)⟩] 11 (by kernel_rfl) (by rfl) (by rfl) (by kernel_rfl) ?_
          refine wpC_take (i := 0) (v := ?_) rfl (by kernel_rfl) (by kernel_rfl) (by rfl) (fun _ _ _ h => h) (fun u => Or.inl ⟨by rfl, ?_⟩) ?_
          rotate_left 1
          · (intro w' hSw; have hSw := SA.out _ hSw; (try dsimp only at hSw); try simp only [putF, Act.put, List.setIfInBounds_toArray, List.set_cons_zero, List.set_cons_succ, List.getElem_toArray, List.getElem_cons_zero, List.getElem_cons_succ]; go_simp; try with_reducible rfl)
          try simp only [Act.put, List.setIfInBounds_toArray, List.set_cons_zero, List.set_cons_succ, List.getElem_toArray, List.getElem_cons_zero, List.getElem_cons_succ]
          refine wpC_take (i := 2) (v := ?_) rfl (by kernel_rfl) (by kernel_rfl) (by rfl) (fun _ _ _ h => h) (fun u => Or.inl ⟨by rfl, ?_⟩) ?_
          rotate_left 1
          · (intro w' hSw; have hSw := SA.out _ hSw; (try dsimp only at hSw); try simp only [putF, Act.put, List.setIfInBounds_toArray, List.set_cons_zero, List.set_cons_succ, List.getElem_toArray, List.getElem_cons_zero, List.getElem_cons_succ]; go_simp; try with_reducible rfl)
          try simp only [Act.put, List.setIfInBounds_toArray, List.set_cons_zero, List.set_cons_succ, List.getElem_toArray, List.getElem_cons_zero, List.getElem_cons_succ]
          refine wpC_take (i := 3) (v := ?_) rfl (by kernel_rfl) (by kernel_rfl) (by rfl) (fun _ _ _ h => h) (fun u => Or.inl ⟨by rfl, ?_⟩) ?_
          rotate_left 1
          · (intro w' hSw; have hSw := SA.out _ hSw; (try dsimp only at hSw); try simp only [putF, Act.put, List.setIfInBounds_toArray, List.set_cons_zero, List.set_cons_succ, List.getElem_toArray, List.getElem_cons_zero, List.getElem_cons_succ]; go_simp; try with_reducible rfl)
          try simp only [Act.put, List.setIfInBounds_toArray, List.set_cons_zero, List.set_cons_succ, List.getElem_toArray, List.getElem_cons_zero, List.getElem_cons_succ]
          refine wpC_step (i := 1) rfl (by kernel_rfl) (by rfl) (List.forall_mem_cons.2 ⟨FloOK.alloc rfl 31 rfl rfl rfl (fun w => by go_simp), (fun _ h => absurd h List.not_mem_nil)⟩) (by rfl) ?_
          intro bb gg uu P1' hrd hB k0 kW K' hK
          clear hrd hB
          have KW := hik k0
          clear kW k0
          refine stepL_callN 5 #[.tmp 81] #[22] (by rfl) (by rfl) #[.slice c0 len0 cap0] (by (try simp only [putF, Act.put, List.setIfInBounds_toArray, List.set_cons_zero, List.set_cons_succ, List.getElem_toArray, List.getElem_cons_zero, List.getElem_cons_succ]); simp only [List.map_toArray, List.map_cons, List.map_nil] <;> rfl) (run_go Try.func5 (by kernel_rfl) (by kernel_rfl) _ _) (toByteS_any c0 len0 cap0 z0 _ (hik (V0.out.keep (K0.out.trans KW.out))) (by have := HN.out; omega)) ?_
          rintro e P1 ⟨he, ri, kk⟩
          generalize hxb : (P1').heap.size = xb at he ri
          clear hxb
          have IY := hik (RowV.of_row ri (Nat.le_refl _))
          clear ri
          refine ⟨_, he, hK _ _ kk ?_⟩
          have hsP1 := hik kk.size
          clear he kk hK K' KW bb gg uu
          try simp only [Act.put, List.setIfInBounds_toArray, List.set_cons_zero, List.set_cons_succ, List.getElem_toArray, List.getElem_cons_zero, List.getElem_cons_succ]
          refine wpC_step (i := 4) rfl (by kernel_rfl) (by rfl) (List.forall_mem_cons.2 ⟨FloOK.alloc rfl 31 rfl rfl rfl (fun w => by go_simp), (fun _ h => absurd h List.not_mem_nil)⟩) (by rfl) ?_
          intro bb gg uu P2' hrd hB k0 kW K' hK
          clear hrd hB
          have KW := hik k0
          replace IY := hik (IY.out.keep kW)
          clear kW k0
          refine stepL_callN 6 #[.tmp 84] #[24] (by rfl) (by rfl) #[.agg #[.int .i64 a2, .int .i64 b2, .int .i64 d2]] (by (try simp only [putF, Act.put, List.setIfInBounds_toArray, List.set_cons_zero, List.set_cons_succ, List.getElem_toArray, List.getElem_cons_zero, List.getElem_cons_succ]); simp only [List.map_toArray, List.map_cons, List.map_nil] <;> rfl) (run_go Try.func6 (by kernel_rfl) (by kernel_rfl) _ _) (toSetting_any a2 b2 d2 _) ?_
          rintro e P2 ⟨he, kk⟩
          replace IY := hik (IY.out.keep kk)
          refine ⟨_, he, hK _ _ kk ?_⟩
          have hsP2 := hik kk.size
          clear he kk hK K' KW bb gg uu
          try simp only [Act.put, List.setIfInBounds_toArray, List.set_cons_zero, List.set_cons_succ, List.getElem_toArray, List.getElem_cons_zero, List.getElem_cons_succ]
          refine wpC_step (i := 5) rfl (by kernel_rfl) (by rfl) (List.forall_mem_cons.2 ⟨FloOK.alloc rfl 31 rfl rfl rfl (fun w => by go_simp), (fun _ h => absurd h List.not_mem_nil)⟩) (by rfl) ?_
          intro bb gg uu P3' hrd hB k0 kW K' hK
          clear hrd hB
          have KW := hik k0
          replace IY := hik (IY.out.keep kW)
          clear kW k0
          refine stepL_callN 7 #[.tmp 82, .tmp 83, .tmp 85] #[22, 3, 35] (by rfl) (by rfl) #[.slice (some ⟨xb, 0, none⟩) len0 len0, .int .i64 a1, .agg #[.int .i64 a2, .int .i64 b2, .int .i64 d2]] (by (try simp only [putF, Act.put, List.setIfInBounds_toArray, List.set_cons_zero, List.set_cons_succ, List.getElem_toArray, List.getElem_cons_zero, List.getElem_cons_succ]); simp only [List.map_toArray, List.map_cons, List.map_nil] <;> rfl) (run_go Try.func7 (by kernel_rfl) (by kernel_rfl) _ _) (HI.out (some ⟨xb, 0, none⟩) len0 _ IY (Nat.le_refl _) (by have := HN.out; omega)) ?_
          rintro e P3 ⟨aS, he, rS, kk⟩
          replace IY := hik (IY.out.keep kk)
          have OS := hik rS
          have HLO := hik (show W12.heap.size ≤ P3'.heap.size from KW.out.size)
          clear rS
          refine ⟨_, he, hK _ _ kk ?_⟩
          have hsP3 := hik kk.size
          clear he kk hK K' KW bb gg uu
          try simp only [Act.put, List.setIfInBounds_toArray, List.set_cons_zero, List.set_cons_succ, List.getElem_toArray, List.getElem_cons_zero, List.getElem_cons_succ]
          refine wpC_take (i := 6) (v := ?_) rfl (by kernel_rfl) (by kernel_rfl) (by rfl) (fun _ _ _ h => h) (fun u => Or.inl ⟨by rfl, ?_⟩) ?_
          rotate_left 1
          · (intro w' hSw; have hSw := SA.out _ hSw; (try dsimp only at hSw); try simp only [putF, Act.put, List.setIfInBounds_toArray, List.set_cons_zero, List.set_cons_succ, List.getElem_toArray, List.getElem_cons_zero, List.getElem_cons_succ]; go_simp; try with_reducible rfl)
          try simp only [Act.put, List.setIfInBounds_toArray, List.set_cons_zero, List.set_cons_succ, List.getElem_toArray, List.getElem_cons_zero, List.getElem_cons_succ]
          refine wpC_take (i := 7) (v := ?_) rfl (by kernel_rfl) (by kernel_rfl) (by rfl) (fun _ _ _ h => h) (fun u => Or.inl ⟨by rfl, ?_⟩) ?_
          rotate_left 1
          · (intro w' hSw; have hSw := SA.out _ hSw; (try dsimp only at hSw); try simp only [putF, Act.put, List.setIfInBounds_toArray, List.set_cons_zero, List.set_cons_succ, List.getElem_toArray, List.getElem_cons_zero, List.getElem_cons_succ]; go_simp; try with_reducible rfl)
          try simp only [Act.put, List.setIfInBounds_toArray, List.set_cons_zero, List.set_cons_succ, List.getElem_toArray, List.getElem_cons_zero, List.getElem_cons_succ]
          refine wpC_take (i := 8) (v := ?_) rfl (by kernel_rfl) (by kernel_rfl) (by rfl) (fun _ _ _ h => h) (fun u => Or.inl ⟨by rfl, ?_⟩) ?_
          rotate_left 1
          · (intro w' hSw; have hSw := SA.out _ hSw; (try dsimp only at hSw); try simp only [putF, Act.put, List.setIfInBounds_toArray, List.set_cons_zero, List.set_cons_succ, List.getElem_toArray, List.getElem_cons_zero, List.getElem_cons_succ]; go_simp; try with_reducible rfl)
          try simp only [Act.put, List.setIfInBounds_toArray, List.set_cons_zero, List.set_cons_succ, List.getElem_toArray, List.getElem_cons_zero, List.getElem_cons_succ]
          refine wpC_all (by kernel_rfl) (by rfl) (List.forall_mem_cons.2 ⟨FloOK.alloc rfl 31 rfl rfl rfl (fun w => by go_simp), (fun _ h => absurd h List.not_mem_nil)⟩) ?_
          intro gg uu Pz hB k0 kW
          have KW := hik k0
          have HTOP := hik kW.size
          replace IY := hik (IY.out.keep kW)
          replace OS := hik (OS.out.keep kW)
          obtain ⟨eu0, hg0, hl0, hc0, ha0, hd0⟩ := hB 0 _ rfl rfl
          have eu0 : uu 0 = .pointer (some ⟨gg 0, 0, none⟩) := eu0
          have BX0 := hik (rowN_at (n := 6) hc0 rfl)
          clear hd0 hc0 hl0
          clear hB kW
          generalize gg 0 = g0 at eu0 hg0 ha0 BX0
          refine wpAnyH_as (fuel' := 2) rfl (listed' := #[true, true, true, true, true, true, true, true, true, true, false, false]) (by kernel_rfl) ?_
          simp only [putF, eu0, Act.put, List.setIfInBounds_toArray, List.set_cons_zero, List.set_cons_succ, List.getElem_toArray, List.getElem_cons_zero, List.getElem_cons_succ]
          clear eu0
          have hHeld := k0
          clear k0
          refine wpAnyH_ready (rs := [10]) (by kernel_rfl) (by simp) ?_
          refine AllReadyH.cons rfl (fun K hK => ?_) AllReadyH.nil
          have yy0 : Pz.cell? ⟨g0, 0, none⟩ = some (.slice none 0 0) := BX0.out.cell (i := 0) (by omega)
          have fz0 := BX0.out.frozen 0
          have yy1 : Pz.cell? ⟨g0, 1, none⟩ = some (.slice none 0 0) := BX0.out.cell (i := 1) (by omega)
          have fz1 := BX0.out.frozen 1
          have yy2 : Pz.cell? ⟨g0, 2, none⟩ = some (.int .i64 0) := BX0.out.cell (i := 2) (by omega)
          have fz2 := BX0.out.frozen 2
          have yy3 : Pz.cell? ⟨g0, 3, none⟩ = some (.int .i64 0) := BX0.out.cell (i := 3) (by omega)
          have fz3 := BX0.out.frozen 3
          have yy4 : Pz.cell? ⟨g0, 4, none⟩ = some (.int .i64 0) := BX0.out.cell (i := 4) (by omega)
          have fz4 := BX0.out.frozen 4
          have yy5 : Pz.cell? ⟨g0, 5, none⟩ = some (.slice none 0 0) := BX0.out.cell (i := 5) (by omega)
          have fz5 := BX0.out.frozen 5
          have l7 := BX0.out.lt
          have C7 := hik ((((((((Chg.refl (fun b => b = g0) Pz).setCell (p := ⟨g0, 0, none⟩) (fun _ => rfl) (.slice aS.cR D.nr aS.pR)).setCell (p := ⟨g0, 1, none⟩) (fun _ => rfl) (.slice aS.cT D.nt aS.pT)).setCell (p := ⟨g0, 2, none⟩) (fun _ => rfl) (.int .i64 D.la)).setCell (p := ⟨g0, 3, none⟩) (fun _ => rfl) (.int .i64 D.lb)).setCell (p := ⟨g0, 4, none⟩) (fun _ => rfl) (.int .i64 D.no)).setCell (p := ⟨g0, 5, none⟩) (fun _ => rfl) (.slice aS.cQ D.nq aS.pQ)))
          simp only [List.getElem_toArray, List.getElem_cons_zero, List.getElem_cons_succ]
          go_simp
          replace KW := hik (((((((KW.out.setCell (p := ⟨g0, 0, none⟩) (fun l => absurd (show g0 < W12.heap.size from l) (by omega)) (.slice aS.cR D.nr aS.pR)).setCell (p := ⟨g0, 1, none⟩) (fun l => absurd (show g0 < W12.heap.size from l) (by omega)) (.slice aS.cT D.nt aS.pT)).setCell (p := ⟨g0, 2, none⟩) (fun l => absurd (show g0 < W12.heap.size from l) (by omega)) (.int .i64 D.la)).setCell (p := ⟨g0, 3, none⟩) (fun l => absurd (show g0 < W12.heap.size from l) (by omega)) (.int .i64 D.lb)).setCell (p := ⟨g0, 4, none⟩) (fun l => absurd (show g0 < W12.heap.size from l) (by omega)) (.int .i64 D.no)).setCell (p := ⟨g0, 5, none⟩) (fun l => absurd (show g0 < W12.heap.size from l) (by omega)) (.slice aS.cQ D.nq aS.pQ)))
          refine hK.out _ _ KW.out (fun hHeld => ?_)
          clear hK K
          try simp only [Act.put, List.setIfInBounds_toArray, List.set_cons_zero, List.set_cons_succ, List.getElem_toArray, List.getElem_cons_zero, List.getElem_cons_succ]
          clear yy0 fz0 yy1 fz1 yy2 fz2 yy3 fz3 yy4 fz4 yy5 fz5 l7
          replace OS := hik (OS.out.chg C7.out (fun c hc e => ha0 (.inr ⟨by rw [← show c = g0 from e]; exact hc.1, by rw [← show c = g0 from e]; exact hc.2⟩)))
          have RB0 : Hid (World.rowIs _ g0 31 6 (fun i => (#[.slice aS.cR D.nr aS.pR, .slice aS.cT D.nt aS.pT, .int .i64 D.la, .int .i64 D.lb, .int .i64 D.no, .slice aS.cQ D.nq aS.pQ] : Array Value).getD i undef)) := hik (((((((BX0.out.set 0 (.slice aS.cR D.nr aS.pR)).set 1 (.slice aS.cT D.nt aS.pT)).set 2 (.int .i64 D.la)).set 3 (.int .i64 D.lb)).set 4 (.int .i64 D.no)).set 5 (.slice aS.cQ D.nq aS.pQ)).congr (fun i hi => by rcases (show i = 0 ∨ i = 1 ∨ i = 2 ∨ i = 3 ∨ i = 4 ∨ i = 5 by omega) with rfl | rfl | rfl | rfl | rfl | rfl <;> rfl))
          replace HTOP := hik (Nat.le_trans HTOP.out C7.out.size)
          clear C7 BX0
          generalize hUS : ((((((Pz.setCell ⟨g0, 0, none⟩ (.slice aS.cR D.nr aS.pR)).setCell ⟨g0, 1, none⟩ (.slice aS.cT D.nt aS.pT)).setCell ⟨g0, 2, none⟩ (.int .i64 D.la)).setCell ⟨g0, 3, none⟩ (.int .i64 D.lb)).setCell ⟨g0, 4, none⟩ (.int .i64 D.no)).setCell ⟨g0, 5, none⟩ (.slice aS.cQ D.nq aS.pQ)) = Ps1 at RB0 KW hHeld OS HTOP ⊢
          clear hUS
          refine wpAnyH_take (i := 11) (v := ?_) rfl (by kernel_rfl) (by kernel_rfl) (by kernel_rfl) (fun _ _ _ h => h) (Or.inl ⟨by rfl, ?_⟩) (by assumption) ?_
          rotate_left 1
          · (intro w' hSw; (try dsimp only at hSw); go_simp; try with_reducible rfl)
          try simp only [Act.put, List.setIfInBounds_toArray, List.set_cons_zero, List.set_cons_succ, List.getElem_toArray, List.getElem_cons_zero, List.getElem_cons_succ]
          refine wpAnyH_done (by kernel_rfl) ?_ _
          have R1 := hik (show World.rowIs _ g0 31 6 (fun i => (#[.slice aS.cR D.nr aS.pR, .slice aS.cT D.nt aS.pT, .int .i64 D.la, .int .i64 D.lb, .int .i64 D.no, .slice aS.cQ D.nq aS.pQ] : Array Value).getD i undef) from RB0.out)
          clear SA RB0
          go_wp2_with fail
          go_meet
          exact ⟨aS, g0, P3'.heap.size, P3.heap.size, rfl, rfl, OS, R1, KW, hik ⟨hg0, HLO.out, fun x => ha0 (.inr x), hsP3.out, HTOP.out⟩⟩
      case rest =>
        as_aux_lemma =>
          obtain ⟨aj, gj, loj, hij, rfl, rfl, Oj, Rj, KW, Bj⟩ := hcut
          rename World => W13
          have s13 := hik KW.out.size
          replace K0 := hik (K0.out.trans KW.out)
          replace RT := hik (rowIs_keep RT.out KW.out)
          replace Ow := hik (Ow.out.keep KW.out)
          replace Rw := hik (rowIs_keep Rw.out KW.out)
          replace Oz := hik (Oz.out.keep KW.out)
          replace Rz := hik (rowIs_keep Rz.out KW.out)
          clear KW
          have lj := hik Rj.out.lt
          have xRj0 : W13.cell? ⟨gj, 0, none⟩ = some (.slice aj.cR D.nr aj.pR) := Rj.out.cell (i := 0) (by omega)
          have xRj1 : W13.cell? ⟨gj, 1, none⟩ = some (.slice aj.cT D.nt aj.pT) := Rj.out.cell (i := 1) (by omega)
          have xRj2 : W13.cell? ⟨gj, 2, none⟩ = some (.int .i64 D.la) := Rj.out.cell (i := 2) (by omega)
          have xRj3 : W13.cell? ⟨gj, 3, none⟩ = some (.int .i64 D.lb) := Rj.out.cell (i := 3) (by omega)
          have xRj4 : W13.cell? ⟨gj, 4, none⟩ = some (.int .i64 D.no) := Rj.out.cell (i := 4) (by omega)
          have xRj5 : W13.cell? ⟨gj, 5, none⟩ = some (.slice aj.cQ D.nq aj.pQ) := Rj.out.cell (i := 5) (by omega)
          have zRj := Rj.out.lt
          have xRw0 : W13.cell? ⟨gw, 0, none⟩ = some (.slice aw.cR D.nr aw.pR) := Rw.out.cell (i := 0) (by omega)
          have xRw1 : W13.cell? ⟨gw, 1, none⟩ = some (.slice aw.cT D.nt aw.pT) := Rw.out.cell (i := 1) (by omega)
          have xRw2 : W13.cell? ⟨gw, 2, none⟩ = some (.int .i64 D.la) := Rw.out.cell (i := 2) (by omega)
          have xRw3 : W13.cell? ⟨gw, 3, none⟩ = some (.int .i64 D.lb) := Rw.out.cell (i := 3) (by omega)
          have xRw4 : W13.cell? ⟨gw, 4, none⟩ = some (.int .i64 D.no) := Rw.out.cell (i := 4) (by omega)
          have xRw5 : W13.cell? ⟨gw, 5, none⟩ = some (.slice aw.cQ D.nq aw.pQ) := Rw.out.cell (i := 5) (by omega)
          have zRw := Rw.out.lt
          go_wp2_with fail
          refine (eqOpening_d D aj.cR aj.pR aj.cT aj.pT aj.cQ aj.pQ aw.cR aw.pR aw.cT aw.pT aw.cQ aw.pQ _ (hik Oj.out.rep) (hik Ow.out.rep) HSM).mono ?_
          rintro e W14 ⟨rfl, kk⟩
          clear xRj0 xRj1 xRj2 xRj3 xRj4 xRj5 zRj xRw0 xRw1 xRw2 xRw3 xRw4 xRw5 zRw
          have s14 := hik kk.size
          replace K0 := hik (K0.out.trans kk)
          replace RT := hik (rowIs_keep RT.out kk)
          replace Ow := hik (Ow.out.keep kk)
          replace Rw := hik (rowIs_keep Rw.out kk)
          replace Oz := hik (Oz.out.keep kk)
          replace Rz := hik (rowIs_keep Rz.out kk)
          replace Oj := hik (Oj.out.keep kk)
          replace Rj := hik (rowIs_keep Rj.out kk)
          clear kk
          have xRz0 : W14.cell? ⟨gz, 0, none⟩ = some (.slice az.cR D.nr az.pR) := Rz.out.cell (i := 0) (by omega)
          have xRz1 : W14.cell? ⟨gz, 1, none⟩ = some (.slice az.cT D.nt az.pT) := Rz.out.cell (i := 1) (by omega)
          have xRz2 : W14.cell? ⟨gz, 2, none⟩ = some (.int .i64 D.la) := Rz.out.cell (i := 2) (by omega)
          have xRz3 : W14.cell? ⟨gz, 3, none⟩ = some (.int .i64 D.lb) := Rz.out.cell (i := 3) (by omega)
          have xRz4 : W14.cell? ⟨gz, 4, none⟩ = some (.int .i64 D.no) := Rz.out.cell (i := 4) (by omega)
          have xRz5 : W14.cell? ⟨gz, 5, none⟩ = some (.slice az.cQ D.nq az.pQ) := Rz.out.cell (i := 5) (by omega)
          have zRz := Rz.out.lt
          go_wp2_with fail
          refine (heldOpening_d D az.cR az.pR az.cT az.pT az.cQ az.pQ 1 _ (hik Oz.out.rep) HSM (by omega) (by have := HMC.out; omega)).mono ?_
          rintro e W15 ⟨rfl, kk⟩
          clear xRz0 xRz1 xRz2 xRz3 xRz4 xRz5 zRz
          have s15 := hik kk.size
          replace K0 := hik (K0.out.trans kk)
          replace RT := hik (rowIs_keep RT.out kk)
          replace Ow := hik (Ow.out.keep kk)
          replace Rw := hik (rowIs_keep Rw.out kk)
          replace Oz := hik (Oz.out.keep kk)
          replace Rz := hik (rowIs_keep Rz.out kk)
          replace Oj := hik (Oj.out.keep kk)
          replace Rj := hik (rowIs_keep Rj.out kk)
          clear kk
          go_wp2
          go_ret
          exact ⟨rfl, K0.out.toBelow⟩

end Go.Proofs.Ytfgnhaoonpknlaa
