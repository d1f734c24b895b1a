/- Several texts in one: What the laws' likenesses of lists of lists, queries and openings are: contracts. Conditions: lists that can be read, lengths of at most 2 to the 20. · What the laws' sizes, copies and likenesses of proofs are: contracts; proofs that come in. Conditions: proofs that can be read, lengths of at most 2 to the 20. -/
import Derived.Test.YtfbjlohnbpienaaGreatBzak
import Derived.Test.YtfbjlohnbpienaaGreatBzah
import Derived.Test.YtfbjlohnbpienaaGreatBzad
import Derived.Test.YtfbjlohnbpienaaGreatBzal
import Derived.Test.YtfbjlohnbpienaaGreatBzbi
import Derived.Test.YtfbjlohnbpienaaGreatBzaz
import Derived.Test.YtfbjlohnbpienaaGreatBzbk
import Derived.Laws.Rows
namespace Go.Proofs.YtfbjlohnbpienaaGreat
open Go.ChangeShapes Go.WideShapes Go.ChangeAt Go.RowKit
set_option linter.unusedVariables false
set_option maxRecDepth 100000
set_option linter.unusedSimpArgs false

theorem eqStringS_d (c d : Option Addr) (n cap cap' : Nat) (L : Nat → ByteArray) (w : World) (h : Hid ((Dt.texts n L).Rep w (.slice c n cap))) (h' : Hid ((Dt.texts n L).Rep w (.slice d n cap'))) (hn : n ≤ 1048576) :
    Calls Tryz.prog 60 #[.slice c n cap, .slice d n cap'] w fun e w' => e = .returned (.bool true) ∧ Chg nob w w' := by
  obtain ⟨_, _, e, h1⟩ := h.out
  cases e
  obtain ⟨_, _, e, h2⟩ := h'.out
  cases e
  exact eqStringB_any c d n n cap cap' L L w (hik h1) (hik h2) rfl (fun _ _ => rfl) (by omega)
theorem eqExtS_d (c d : Option Addr) (n cap cap' : Nat) (f g : Nat → Int) (w : World) (h : Hid ((Dt.exts n f g).Rep w (.slice c n cap))) (h' : Hid ((Dt.exts n f g).Rep w (.slice d n cap'))) (hn : n ≤ 1048576) :
    Calls Tryz.prog 59 #[.slice c n cap, .slice d n cap'] w fun e w' => e = .returned (.bool true) ∧ Chg nob w w' := by
  obtain ⟨_, _, e, h1⟩ := h.out
  cases e
  obtain ⟨_, _, e, h2⟩ := h'.out
  cases e
  exact eqExtS_any c d n n cap cap' f g f g w (hik h1) (hik h2) rfl (fun _ _ => ⟨rfl, rfl⟩) (by omega)

set_option maxHeartbeats 2000000 in
theorem eqStringSS_d (c d : Option Addr) (n cap cap' : Nat) (l : Nat → Nat) (T : Nat → Nat → ByteArray) (w : World) (h : Hid ((dSS n l T).Rep w (.slice c n cap))) (h' : Hid ((dSS n l T).Rep w (.slice d n cap'))) (hs : Hid ((dSS n l T).small 1048576)) :
    Calls Tryz.prog 95 #[.slice c n cap, .slice d n cap'] w fun e w' => e = .returned (.bool true) ∧ Chg nob w w' := by
  have hn : n ≤ 1048576 := hs.out.1
  go_enter Tryz.func95, Tryz.ntmps95
  go_wp2
  go_loopw [5] (fun i W => ∃ k : Nat, k ≤ n ∧ i = .int .i64 (k : Int) ∧ Hid (Chg nob w W)) (fun i _ => n - (intOf i).toNat)
  case atStart => exact ⟨0, Nat.zero_le _, rfl, hik (Chg.refl _ _)⟩
  case round =>
    obtain ⟨k, hk, rfl, HG⟩ := hrel
    rename World => wi
    by_cases hlt : k < n
    · have hk1 : (k : Int) < (n : Int) := by omega
      have hk0 : (0 : Int) ≤ (k : Int) := by omega
      obtain ⟨xb, xo, ec, hxb, hcc⟩ := (rep_list (h.out.keep HG.out)).2 k hlt
      obtain ⟨u, x0, hu⟩ := hcc 0 (by omega)
      have hux := hu
      obtain ⟨xc, xp, rfl, hP⟩ := hu
      subst ec
      rw [show xo + (k * 1 + 0) = xo + k by omega] at x0
      have Px := hik hux
      clear hP hcc hux
      obtain ⟨yb, yo, ec, hyb, hcc⟩ := (rep_list (h'.out.keep HG.out)).2 k hlt
      obtain ⟨u, y0, hu⟩ := hcc 0 (by omega)
      have huy := hu
      obtain ⟨yc, yp, rfl, hP⟩ := hu
      subst ec
      rw [show yo + (k * 1 + 0) = yo + k by omega] at y0
      have Py := hik huy
      clear hP hcc huy
      have SK := hik (show (Dt.texts (l k) (T k)).small 1048576 from hs.out.2 k 0 hlt (by omega))
      go_wp2
      have KW := hik ((Chg.refl nob wi).drew1)
      have SA := hik (fun (WW : World) (kW : Chg nob wi WW) => (show (WW.cell? ⟨xb, xo + k, none⟩ = some (.slice xc (l k) xp) ∧ WW.cell? ⟨yb, yo + k, none⟩ = some (.slice yc (l k) yp)) from ⟨kW.see x0, kW.see y0⟩))
      refine wp_region_held_drew (S := fun w' => w'.cell? ⟨xb, xo + k, none⟩ = some (.slice xc (l k) xp) ∧ w'.cell? ⟨yb, yo + k, none⟩ = some (.slice yc (l k) yp)) (by kernel_rfl) ⟨x0, y0⟩ (fun hHeld => ?_)
      refine wpAnyH_take (i := 0) (v := ?_) rfl (by kernel_rfl) (by kernel_rfl) (by kernel_rfl) (fun _ _ _ h => h) (Or.inl ⟨by rfl, ?_⟩) (by assumption) ?_
      rotate_left 1
      · (intro w' hSw; (try dsimp only at hSw); go_simp; try with_reducible rfl)
      try simp only [Act.put, List.setIfInBounds_toArray, List.set_cons_zero, List.set_cons_succ, List.getElem_toArray, List.getElem_cons_zero, List.getElem_cons_succ]
      refine wpAnyH_take (i := 1) (v := ?_) rfl (by kernel_rfl) (by kernel_rfl) (by kernel_rfl) (fun _ _ _ h => h) (Or.inl ⟨by rfl, ?_⟩) (by assumption) ?_
      rotate_left 1
      · (intro w' hSw; (try dsimp only at hSw); go_simp; try with_reducible rfl)
      try simp only [Act.put, List.setIfInBounds_toArray, List.set_cons_zero, List.set_cons_succ, List.getElem_toArray, List.getElem_cons_zero, List.getElem_cons_succ]
      refine wpAnyH_take (i := 2) (v := ?_) rfl (by kernel_rfl) (by kernel_rfl) (by kernel_rfl) (fun _ _ _ h => h) (Or.inl ⟨by rfl, ?_⟩) (by assumption) ?_
      rotate_left 1
      · (intro w' hSw; (try dsimp only at hSw); go_simp; try with_reducible rfl)
      try simp only [Act.put, List.setIfInBounds_toArray, List.set_cons_zero, List.set_cons_succ, List.getElem_toArray, List.getElem_cons_zero, List.getElem_cons_succ]
      refine wpAnyH_take (i := 3) (v := ?_) rfl (by kernel_rfl) (by kernel_rfl) (by kernel_rfl) (fun _ _ _ h => h) (Or.inl ⟨by rfl, ?_⟩) (by assumption) ?_
      rotate_left 1
      · (intro w' hSw; (try dsimp only at hSw); go_simp; try with_reducible rfl)
      try simp only [Act.put, List.setIfInBounds_toArray, List.set_cons_zero, List.set_cons_succ, List.getElem_toArray, List.getElem_cons_zero, List.getElem_cons_succ]
      refine wpAnyH_take (i := 4) (v := ?_) rfl (by kernel_rfl) (by kernel_rfl) (by kernel_rfl) (fun _ _ _ h => h) (Or.inl ⟨by rfl, ?_⟩) (by assumption) ?_
      rotate_left 1
      · (intro w' hSw; (try dsimp only at hSw); go_simp; try with_reducible rfl)
      try simp only [Act.put, List.setIfInBounds_toArray, List.set_cons_zero, List.set_cons_succ, List.getElem_toArray, List.getElem_cons_zero, List.getElem_cons_succ]
      refine wpAnyH_take (i := 5) (v := ?_) rfl (by kernel_rfl) (by kernel_rfl) (by kernel_rfl) (fun _ _ _ h => h) (Or.inl ⟨by rfl, ?_⟩) (by assumption) ?_
      rotate_left 1
      · (intro w' hSw; (try dsimp only at hSw); go_simp; try with_reducible rfl)
      try simp only [Act.put, List.setIfInBounds_toArray, List.set_cons_zero, List.set_cons_succ, List.getElem_toArray, List.getElem_cons_zero, List.getElem_cons_succ]
      refine wpAnyH_take (i := 6) (v := ?_) rfl (by kernel_rfl) (by kernel_rfl) (by kernel_rfl) (fun _ _ _ h => h) (Or.inl ⟨by rfl, ?_⟩) (by assumption) ?_
      rotate_left 1
      · (intro w' hSw; (try dsimp only at hSw); go_simp; try with_reducible rfl)
      try simp only [Act.put, List.setIfInBounds_toArray, List.set_cons_zero, List.set_cons_succ, List.getElem_toArray, List.getElem_cons_zero, List.getElem_cons_succ]
      refine wpAnyH_take (i := 7) (v := ?_) rfl (by kernel_rfl) (by kernel_rfl) (by kernel_rfl) (fun _ _ _ h => h) (Or.inl ⟨by rfl, ?_⟩) (by assumption) ?_
      rotate_left 1
      · (intro w' hSw; (try dsimp only at hSw); go_simp; try with_reducible rfl)
      try simp only [Act.put, List.setIfInBounds_toArray, List.set_cons_zero, List.set_cons_succ, List.getElem_toArray, List.getElem_cons_zero, List.getElem_cons_succ]
      refine wpAnyH_ready (rs := [8]) (by kernel_rfl) (by simp) ?_
      refine AllReadyH.cons rfl (fun K hK => ?_) AllReadyH.nil
      refine stepL_callN 60 #[.tmp 20, .tmp 24] #[25, 25] (by rfl) (by rfl) #[.slice xc (l k) xp, .slice yc (l k) yp] (by simp only [List.map_toArray, List.map_cons, List.map_nil] <;> rfl) (run_go Tryz.func60 (by kernel_rfl) (by kernel_rfl) _ _) (eqStringS_d xc yc (l k) xp yp (T k) _ (hik (Px.out.keep KW.out)) (hik (Py.out.keep KW.out)) SK.out.1) ?_
      rintro e U1 ⟨he, kk⟩
      refine ⟨_, he, ?_⟩
      replace KW := hik (KW.out.trans kk)
      refine hK.out _ _ (SA.out _ KW.out) (fun hHeld => ?_)
      clear hK K
      try simp only [Act.put, List.setIfInBounds_toArray, List.set_cons_zero, List.set_cons_succ, List.getElem_toArray, List.getElem_cons_zero, List.getElem_cons_succ]
      clear he kk
      refine wpAnyH_take (i := 9) (v := ?_) rfl (by kernel_rfl) (by kernel_rfl) (by kernel_rfl) (fun _ _ _ h => h) (Or.inl ⟨by rfl, ?_⟩) (by assumption) ?_
      rotate_left 1
      · (intro w' hSw; (try dsimp only at hSw); go_simp; try with_reducible rfl)
      try simp only [Act.put, List.setIfInBounds_toArray, List.set_cons_zero, List.set_cons_succ, List.getElem_toArray, List.getElem_cons_zero, List.getElem_cons_succ]
      refine wpAnyH_done (by kernel_rfl) ?_ _
      have GE := hik (HG.out.trans KW.out)
      clear KW SA hHeld x0 y0 HG
      go_wp2
      go_roundw
      case rel => exact ⟨k + 1, by omega, by go_num, GE⟩
      case measure => simp [intOf]; omega
    · obtain rfl : n = k := by omega
      have hcc : ¬ (n : Int) < (n : Int) := by omega
      go_wp2
      go_ret
      exact ⟨rfl, HG.out⟩

set_option maxHeartbeats 2000000 in
theorem eqExtSS_d (c d : Option Addr) (n cap cap' : Nat) (l : Nat → Nat) (f g : Nat → Nat → Int) (w : World) (h : Hid ((dEE n l f g).Rep w (.slice c n cap))) (h' : Hid ((dEE n l f g).Rep w (.slice d n cap'))) (hs : Hid ((dEE n l f g).small 1048576)) :
    Calls Tryz.prog 31 #[.slice c n cap, .slice d n cap'] w fun e w' => e = .returned (.bool true) ∧ Chg nob w w' := by
  have hn : n ≤ 1048576 := hs.out.1
  go_enter Tryz.func31, Tryz.ntmps31
  go_wp2
  go_loopw [5] (fun i W => ∃ k : Nat, k ≤ n ∧ i = .int .i64 (k : Int) ∧ Hid (Chg nob w W)) (fun i _ => n - (intOf i).toNat)
  case atStart => exact ⟨0, Nat.zero_le _, rfl, hik (Chg.refl _ _)⟩
  case round =>
    obtain ⟨k, hk, rfl, HG⟩ := hrel
    rename World => wi
    by_cases hlt : k < n
    · have hk1 : (k : Int) < (n : Int) := by omega
      have hk0 : (0 : Int) ≤ (k : Int) := by omega
      obtain ⟨xb, xo, ec, hxb, hcc⟩ := (rep_list (h.out.keep HG.out)).2 k hlt
      obtain ⟨u, x0, hu⟩ := hcc 0 (by omega)
      have hux := hu
      obtain ⟨xc, xp, rfl, hP⟩ := hu
      subst ec
      rw [show xo + (k * 1 + 0) = xo + k by omega] at x0
      have Px := hik hux
      clear hP hcc hux
      obtain ⟨yb, yo, ec, hyb, hcc⟩ := (rep_list (h'.out.keep HG.out)).2 k hlt
      obtain ⟨u, y0, hu⟩ := hcc 0 (by omega)
      have huy := hu
      obtain ⟨yc, yp, rfl, hP⟩ := hu
      subst ec
      rw [show yo + (k * 1 + 0) = yo + k by omega] at y0
      have Py := hik huy
      clear hP hcc huy
      have SK := hik (show (Dt.exts (l k) (f k) (g k)).small 1048576 from hs.out.2 k 0 hlt (by omega))
      go_wp2
      have KW := hik ((Chg.refl nob wi).drew1)
      have SA := hik (fun (WW : World) (kW : Chg nob wi WW) => (show (WW.cell? ⟨xb, xo + k, none⟩ = some (.slice xc (l k) xp) ∧ WW.cell? ⟨yb, yo + k, none⟩ = some (.slice yc (l k) yp)) from ⟨kW.see x0, kW.see y0⟩))
      refine wp_region_held_drew (S := fun w' => w'.cell? ⟨xb, xo + k, none⟩ = some (.slice xc (l k) xp) ∧ w'.cell? ⟨yb, yo + k, none⟩ = some (.slice yc (l k) yp)) (by kernel_rfl) ⟨x0, y0⟩ (fun hHeld => ?_)
      refine wpAnyH_take (i := 0) (v := ?_) rfl (by kernel_rfl) (by kernel_rfl) (by kernel_rfl) (fun _ _ _ h => h) (Or.inl ⟨by rfl, ?_⟩) (by assumption) ?_
      rotate_left 1
      · (intro w' hSw; (try dsimp only at hSw); go_simp; try with_reducible rfl)
      try simp only [Act.put, List.setIfInBounds_toArray, List.set_cons_zero, List.set_cons_succ, List.getElem_toArray, List.getElem_cons_zero, List.getElem_cons_succ]
      refine wpAnyH_take (i := 1) (v := ?_) rfl (by kernel_rfl) (by kernel_rfl) (by kernel_rfl) (fun _ _ _ h => h) (Or.inl ⟨by rfl, ?_⟩) (by assumption) ?_
      rotate_left 1
      · (intro w' hSw; (try dsimp only at hSw); go_simp; try with_reducible rfl)
      try simp only [Act.put, List.setIfInBounds_toArray, List.set_cons_zero, List.set_cons_succ, List.getElem_toArray, List.getElem_cons_zero, List.getElem_cons_succ]
      refine wpAnyH_take (i := 2) (v := ?_) rfl (by kernel_rfl) (by kernel_rfl) (by kernel_rfl) (fun _ _ _ h => h) (Or.inl ⟨by rfl, ?_⟩) (by assumption) ?_
      rotate_left 1
      · (intro w' hSw; (try dsimp only at hSw); go_simp; try with_reducible rfl)
      try simp only [Act.put, List.setIfInBounds_toArray, List.set_cons_zero, List.set_cons_succ, List.getElem_toArray, List.getElem_cons_zero, List.getElem_cons_succ]
      refine wpAnyH_take (i := 3) (v := ?_) rfl (by kernel_rfl) (by kernel_rfl) (by kernel_rfl) (fun _ _ _ h => h) (Or.inl ⟨by rfl, ?_⟩) (by assumption) ?_
      rotate_left 1
      · (intro w' hSw; (try dsimp only at hSw); go_simp; try with_reducible rfl)
      try simp only [Act.put, List.setIfInBounds_toArray, List.set_cons_zero, List.set_cons_succ, List.getElem_toArray, List.getElem_cons_zero, List.getElem_cons_succ]
      refine wpAnyH_take (i := 4) (v := ?_) rfl (by kernel_rfl) (by kernel_rfl) (by kernel_rfl) (fun _ _ _ h => h) (Or.inl ⟨by rfl, ?_⟩) (by assumption) ?_
      rotate_left 1
      · (intro w' hSw; (try dsimp only at hSw); go_simp; try with_reducible rfl)
      try simp only [Act.put, List.setIfInBounds_toArray, List.set_cons_zero, List.set_cons_succ, List.getElem_toArray, List.getElem_cons_zero, List.getElem_cons_succ]
      refine wpAnyH_take (i := 5) (v := ?_) rfl (by kernel_rfl) (by kernel_rfl) (by kernel_rfl) (fun _ _ _ h => h) (Or.inl ⟨by rfl, ?_⟩) (by assumption) ?_
      rotate_left 1
      · (intro w' hSw; (try dsimp only at hSw); go_simp; try with_reducible rfl)
      try simp only [Act.put, List.setIfInBounds_toArray, List.set_cons_zero, List.set_cons_succ, List.getElem_toArray, List.getElem_cons_zero, List.getElem_cons_succ]
      refine wpAnyH_take (i := 6) (v := ?_) rfl (by kernel_rfl) (by kernel_rfl) (by kernel_rfl) (fun _ _ _ h => h) (Or.inl ⟨by rfl, ?_⟩) (by assumption) ?_
      rotate_left 1
      · (intro w' hSw; (try dsimp only at hSw); go_simp; try with_reducible rfl)
      try simp only [Act.put, List.setIfInBounds_toArray, List.set_cons_zero, List.set_cons_succ, List.getElem_toArray, List.getElem_cons_zero, List.getElem_cons_succ]
      refine wpAnyH_take (i := 7) (v := ?_) rfl (by kernel_rfl) (by kernel_rfl) (by kernel_rfl) (fun _ _ _ h => h) (Or.inl ⟨by rfl, ?_⟩) (by assumption) ?_
      rotate_left 1
      · (intro w' hSw; (try dsimp only at hSw); go_simp; try with_reducible rfl)
      try simp only [Act.put, List.setIfInBounds_toArray, List.set_cons_zero, List.set_cons_succ, List.getElem_toArray, List.getElem_cons_zero, List.getElem_cons_succ]
      refine wpAnyH_ready (rs := [8]) (by kernel_rfl) (by simp) ?_
      refine AllReadyH.cons rfl (fun K hK => ?_) AllReadyH.nil
      refine stepL_callN 59 #[.tmp 20, .tmp 24] #[73, 73] (by rfl) (by rfl) #[.slice xc (l k) xp, .slice yc (l k) yp] (by simp only [List.map_toArray, List.map_cons, List.map_nil] <;> rfl) (run_go Tryz.func59 (by kernel_rfl) (by kernel_rfl) _ _) (eqExtS_d xc yc (l k) xp yp (f k) (g k) _ (hik (Px.out.keep KW.out)) (hik (Py.out.keep KW.out)) SK.out) ?_
      rintro e U1 ⟨he, kk⟩
      refine ⟨_, he, ?_⟩
      replace KW := hik (KW.out.trans kk)
      refine hK.out _ _ (SA.out _ KW.out) (fun hHeld => ?_)
      clear hK K
      try simp only [Act.put, List.setIfInBounds_toArray, List.set_cons_zero, List.set_cons_succ, List.getElem_toArray, List.getElem_cons_zero, List.getElem_cons_succ]
      clear he kk
      refine wpAnyH_take (i := 9) (v := ?_) rfl (by kernel_rfl) (by kernel_rfl) (by kernel_rfl) (fun _ _ _ h => h) (Or.inl ⟨by rfl, ?_⟩) (by assumption) ?_
      rotate_left 1
      · (intro w' hSw; (try dsimp only at hSw); go_simp; try with_reducible rfl)
      try simp only [Act.put, List.setIfInBounds_toArray, List.set_cons_zero, List.set_cons_succ, List.getElem_toArray, List.getElem_cons_zero, List.getElem_cons_succ]
      refine wpAnyH_done (by kernel_rfl) ?_ _
      have GE := hik (HG.out.trans KW.out)
      clear KW SA hHeld x0 y0 HG
      go_wp2
      go_roundw
      case rel => exact ⟨k + 1, by omega, by go_num, GE⟩
      case measure => simp [intOf]; omega
    · obtain rfl : n = k := by omega
      have hcc : ¬ (n : Int) < (n : Int) := by omega
      go_wp2
      go_ret
      exact ⟨rfl, HG.out⟩

set_option maxHeartbeats 2000000 in
theorem eqQuery_d (c d : Option Addr) (cap cap' : Nat) (c' d' : Option Addr) (p p' : Nat) (q : QD) (w : World) (h : Hid (q.P.Rep w (.slice c q.np cap))) (h' : Hid (q.S.Rep w (.slice d q.nq cap'))) (h2 : Hid (q.P.Rep w (.slice c' q.np p))) (h2' : Hid (q.S.Rep w (.slice d' q.nq p'))) (hs : Hid (q.P.small 1048576)) (hs' : Hid (q.S.small 1048576)) :
    Calls Tryz.prog 84 #[.agg #[.slice c q.np cap, .slice d q.nq cap'], .agg #[.slice c' q.np p, .slice d' q.nq p']] w fun e w' => e = .returned (.bool true) ∧ Chg nob w w' := by
  have R0 := hik (rowIs_keep (row2_new w (.slice c q.np cap) (.slice d q.nq cap') 106) ((Chg.refl nob _).alloc (.cells #[.slice c' q.np p, .slice d' q.nq p'] 106)))
  have R1 := hik (row2_new (w.alloc (.cells #[.slice c q.np cap, .slice d q.nq cap'] 106)) (.slice c' q.np p) (.slice d' q.nq p') 106)
  have K0 := hik (((Chg.refl nob w).alloc (.cells #[.slice c q.np cap, .slice d q.nq cap'] 106)).alloc (.cells #[.slice c' q.np p, .slice d' q.nq p'] 106))
  rw [asz] at R1
  go_enter Tryz.func84, Tryz.ntmps84
  go_wp2_with fail
  generalize hW : (w.alloc (.cells #[.slice c q.np cap, .slice d q.nq cap'] 106)).alloc (.cells #[.slice c' q.np p, .slice d' q.nq p'] 106) = W0 at R0 R1 K0 ⊢
  clear hW
  refine (eqExtS_d c c' q.np cap p q.f q.g _ (hik (h.out.keep K0.out)) (hik (h2.out.keep K0.out)) hs.out).mono ?_
  rintro e W1 ⟨rfl, k1⟩
  have G1 := hik (K0.out.trans k1)
  replace R0 := hik (rowIs_keep R0.out k1)
  replace R1 := hik (rowIs_keep R1.out k1)
  clear k1
  have x1 := row2_c1 R0.out
  have y1 := row2_c1 R1.out
  go_wp2_with fail
  refine (eqStringSS_d d d' q.nq cap' p' q.l q.T _ (hik (h'.out.keep G1.out)) (hik (h2'.out.keep G1.out)) hs').mono ?_
  rintro e W2 ⟨rfl, k2⟩
  have G2 := hik (G1.out.trans k2)
  clear k2 x1 y1
  go_wp2
  go_ret
  exact ⟨rfl, G2.out⟩

set_option maxHeartbeats 2000000 in
theorem eqQueryS_d (c d : Option Addr) (n cap cap' : Nat) (q : Nat → QD) (w : World) (h : Hid ((dQs n q).Rep w (.slice c n cap))) (h' : Hid ((dQs n q).Rep w (.slice d n cap'))) (hs : Hid ((dQs n q).small 1048576)) :
    Calls Tryz.prog 61 #[.slice c n cap, .slice d n cap'] w fun e w' => e = .returned (.bool true) ∧ Chg nob w w' := by
  have hn : n ≤ 1048576 := hs.out.1
  go_enter Tryz.func61, Tryz.ntmps61
  go_wp2
  go_loopw [5] (fun i W => ∃ k : Nat, k ≤ n ∧ i = .int .i64 (k : Int) ∧ Hid (Chg nob w W)) (fun i _ => n - (intOf i).toNat)
  case atStart => exact ⟨0, Nat.zero_le _, rfl, hik (Chg.refl _ _)⟩
  case round =>
    obtain ⟨k, hk, rfl, HG⟩ := hrel
    rename World => wi
    by_cases hlt : k < n
    · have hk1 : (k : Int) < (n : Int) := by omega
      have hk0 : (0 : Int) ≤ (k : Int) := by omega
      obtain ⟨xb, xo, xc, xp, xd, xq, ec, hxb, x0, x1, hP, hS⟩ := dQs_at (h.out.keep HG.out) hlt
      subst ec
      have Px := hik hP
      have Sx := hik hS
      clear hP hS
      obtain ⟨yb, yo, yc, yp, yd, yq, ec, hyb, y0, y1, hP, hS⟩ := dQs_at (h'.out.keep HG.out) hlt
      subst ec
      have Py := hik hP
      have Sy := hik hS
      clear hP hS
      have S0 := hik (show (q k).P.small 1048576 from hs.out.2 k 0 hlt (by omega))
      have S1 := hik (show (q k).S.small 1048576 from hs.out.2 k 1 hlt (by omega))
      go_wp2
      have KW := hik ((Chg.refl nob wi).drew1)
      have SA := hik (fun (WW : World) (kW : Chg nob wi WW) => (show (WW.cell? ⟨xb, xo + k * 2, none⟩ = some (.slice xc (q k).np xp) ∧ WW.cell? ⟨xb, xo + k * 2 + 1, none⟩ = some (.slice xd (q k).nq xq) ∧ WW.cell? ⟨yb, yo + k * 2, none⟩ = some (.slice yc (q k).np yp) ∧ WW.cell? ⟨yb, yo + k * 2 + 1, none⟩ = some (.slice yd (q k).nq yq)) from ⟨kW.see x0, kW.see x1, kW.see y0, kW.see y1⟩))
      refine wp_region_held_drew (S := fun w' => w'.cell? ⟨xb, xo + k * 2, none⟩ = some (.slice xc (q k).np xp) ∧ w'.cell? ⟨xb, xo + k * 2 + 1, none⟩ = some (.slice xd (q k).nq xq) ∧ w'.cell? ⟨yb, yo + k * 2, none⟩ = some (.slice yc (q k).np yp) ∧ w'.cell? ⟨yb, yo + k * 2 + 1, none⟩ = some (.slice yd (q k).nq yq)) (by kernel_rfl) ⟨x0, x1, y0, y1⟩ (fun hHeld => ?_)
      refine wpAnyH_take (i := 0) (v := ?_) rfl (by kernel_rfl) (by kernel_rfl) (by kernel_rfl) (fun _ _ _ h => h) (Or.inl ⟨by rfl, ?_⟩) (by assumption) ?_
      rotate_left 1
      · (intro w' hSw; (try dsimp only at hSw); go_simp; try with_reducible rfl)
      try simp only [Act.put, List.setIfInBounds_toArray, List.set_cons_zero, List.set_cons_succ, List.getElem_toArray, List.getElem_cons_zero, List.getElem_cons_succ]
      refine wpAnyH_take (i := 1) (v := ?_) rfl (by kernel_rfl) (by kernel_rfl) (by kernel_rfl) (fun _ _ _ h => h) (Or.inl ⟨by rfl, ?_⟩) (by assumption) ?_
      rotate_left 1
      · (intro w' hSw; (try dsimp only at hSw); go_simp; try with_reducible rfl)
      try simp only [Act.put, List.setIfInBounds_toArray, List.set_cons_zero, List.set_cons_succ, List.getElem_toArray, List.getElem_cons_zero, List.getElem_cons_succ]
      refine wpAnyH_take (i := 2) (v := ?_) rfl (by kernel_rfl) (by kernel_rfl) (by kernel_rfl) (fun _ _ _ h => h) (Or.inl ⟨by rfl, ?_⟩) (by assumption) ?_
      rotate_left 1
      · (intro w' hSw; (try dsimp only at hSw); go_simp; try with_reducible rfl)
      try simp only [Act.put, List.setIfInBounds_toArray, List.set_cons_zero, List.set_cons_succ, List.getElem_toArray, List.getElem_cons_zero, List.getElem_cons_succ]
      refine wpAnyH_take (i := 3) (v := ?_) rfl (by kernel_rfl) (by kernel_rfl) (by kernel_rfl) (fun _ _ _ h => h) (Or.inl ⟨by rfl, ?_⟩) (by assumption) ?_
      rotate_left 1
      · (intro w' hSw; (try dsimp only at hSw); go_simp; try with_reducible rfl)
      try simp only [Act.put, List.setIfInBounds_toArray, List.set_cons_zero, List.set_cons_succ, List.getElem_toArray, List.getElem_cons_zero, List.getElem_cons_succ]
      refine wpAnyH_take (i := 4) (v := ?_) rfl (by kernel_rfl) (by kernel_rfl) (by kernel_rfl) (fun _ _ _ h => h) (Or.inl ⟨by rfl, ?_⟩) (by assumption) ?_
      rotate_left 1
      · (intro w' hSw; (try dsimp only at hSw); go_simp; try with_reducible rfl)
      try simp only [Act.put, List.setIfInBounds_toArray, List.set_cons_zero, List.set_cons_succ, List.getElem_toArray, List.getElem_cons_zero, List.getElem_cons_succ]
      refine wpAnyH_take (i := 5) (v := ?_) rfl (by kernel_rfl) (by kernel_rfl) (by kernel_rfl) (fun _ _ _ h => h) (Or.inl ⟨by rfl, ?_⟩) (by assumption) ?_
      rotate_left 1
      · (intro w' hSw; (try dsimp only at hSw); go_simp; try with_reducible rfl)
      try simp only [Act.put, List.setIfInBounds_toArray, List.set_cons_zero, List.set_cons_succ, List.getElem_toArray, List.getElem_cons_zero, List.getElem_cons_succ]
      refine wpAnyH_take (i := 6) (v := ?_) rfl (by kernel_rfl) (by kernel_rfl) (by kernel_rfl) (fun _ _ _ h => h) (Or.inl ⟨by rfl, ?_⟩) (by assumption) ?_
      rotate_left 1
      · (intro w' hSw; (try dsimp only at hSw); go_simp; try with_reducible rfl)
      try simp only [Act.put, List.setIfInBounds_toArray, List.set_cons_zero, List.set_cons_succ, List.getElem_toArray, List.getElem_cons_zero, List.getElem_cons_succ]
      refine wpAnyH_take (i := 7) (v := ?_) rfl (by kernel_rfl) (by kernel_rfl) (by kernel_rfl) (fun _ _ _ h => h) (Or.inl ⟨by rfl, ?_⟩) (by assumption) ?_
      rotate_left 1
      · (intro w' hSw; (try dsimp only at hSw); go_simp; try with_reducible rfl)
      try simp only [Act.put, List.setIfInBounds_toArray, List.set_cons_zero, List.set_cons_succ, List.getElem_toArray, List.getElem_cons_zero, List.getElem_cons_succ]
      refine wpAnyH_ready (rs := [8]) (by kernel_rfl) (by simp) ?_
      refine AllReadyH.cons rfl (fun K hK => ?_) AllReadyH.nil
      refine stepL_callN 84 #[.tmp 20, .tmp 24] #[106, 106] (by rfl) (by rfl) #[.agg #[.slice xc (q k).np xp, .slice xd (q k).nq xq], .agg #[.slice yc (q k).np yp, .slice yd (q k).nq yq]] (by simp only [List.map_toArray, List.map_cons, List.map_nil] <;> rfl) (run_go Tryz.func84 (by kernel_rfl) (by kernel_rfl) _ _) (eqQuery_d xc xd xp xq yc yd yp yq (q k) _ (hik (Px.out.keep KW.out)) (hik (Sx.out.keep KW.out)) (hik (Py.out.keep KW.out)) (hik (Sy.out.keep KW.out)) S0 S1) ?_
      rintro e U1 ⟨he, kk⟩
      refine ⟨_, he, ?_⟩
      replace KW := hik (KW.out.trans kk)
      refine hK.out _ _ (SA.out _ KW.out) (fun hHeld => ?_)
      clear hK K
      try simp only [Act.put, List.setIfInBounds_toArray, List.set_cons_zero, List.set_cons_succ, List.getElem_toArray, List.getElem_cons_zero, List.getElem_cons_succ]
      clear he kk
      refine wpAnyH_take (i := 9) (v := ?_) rfl (by kernel_rfl) (by kernel_rfl) (by kernel_rfl) (fun _ _ _ h => h) (Or.inl ⟨by rfl, ?_⟩) (by assumption) ?_
      rotate_left 1
      · (intro w' hSw; (try dsimp only at hSw); go_simp; try with_reducible rfl)
      try simp only [Act.put, List.setIfInBounds_toArray, List.set_cons_zero, List.set_cons_succ, List.getElem_toArray, List.getElem_cons_zero, List.getElem_cons_succ]
      refine wpAnyH_done (by kernel_rfl) ?_ _
      have GE := hik (HG.out.trans KW.out)
      clear KW SA hHeld x0 x1 y0 y1 HG
      go_wp2
      go_roundw
      case rel => exact ⟨k + 1, by omega, by go_num, GE⟩
      case measure => simp [intOf]; omega
    · obtain rfl : n = k := by omega
      have hcc : ¬ (n : Int) < (n : Int) := by omega
      go_wp2
      go_ret
      exact ⟨rfl, HG.out⟩

set_option maxHeartbeats 4000000 in
theorem eqOpening_d (o : OD) (cR : Option Addr) (pR : Nat) (cT : Option Addr) (pT : Nat) (cQ : Option Addr) (pQ : Nat) (cR' : Option Addr) (pR' : Nat) (cT' : Option Addr) (pT' : Nat) (cQ' : Option Addr) (pQ' : Nat) (w : World) (h : Hid (OpV w o cR pR cT pT cQ pQ)) (h' : Hid (OpV w o cR' pR' cT' pT' cQ' pQ')) (hs : Hid o.small) :
    Calls Tryz.prog 33 #[.agg #[.slice cR o.nr pR, .slice cT o.nt pT, .int .i64 o.la, .int .i64 o.lb, .int .i64 o.no, .slice cQ o.nq pQ], .agg #[.slice cR' o.nr pR', .slice cT' o.nt pT', .int .i64 o.la, .int .i64 o.lb, .int .i64 o.no, .slice cQ' o.nq pQ']] w fun e w' => e = .returned (.bool true) ∧ Chg nob w w' := by
  have R0 := hik (rowIs_keep (rowN_new w 6 #[.slice cR o.nr pR, .slice cT o.nt pT, .int .i64 o.la, .int .i64 o.lb, .int .i64 o.no, .slice cQ o.nq pQ] 45 rfl) ((Chg.refl nob _).alloc (.cells #[.slice cR' o.nr pR', .slice cT' o.nt pT', .int .i64 o.la, .int .i64 o.lb, .int .i64 o.no, .slice cQ' o.nq pQ'] 45)))
  have R1 := hik (rowN_new (w.alloc (.cells #[.slice cR o.nr pR, .slice cT o.nt pT, .int .i64 o.la, .int .i64 o.lb, .int .i64 o.no, .slice cQ o.nq pQ] 45)) 6 #[.slice cR' o.nr pR', .slice cT' o.nt pT', .int .i64 o.la, .int .i64 o.lb, .int .i64 o.no, .slice cQ' o.nq pQ'] 45 rfl)
  have K0 := hik (((Chg.refl nob w).alloc (.cells #[.slice cR o.nr pR, .slice cT o.nt pT, .int .i64 o.la, .int .i64 o.lb, .int .i64 o.no, .slice cQ o.nq pQ] 45)).alloc (.cells #[.slice cR' o.nr pR', .slice cT' o.nt pT', .int .i64 o.la, .int .i64 o.lb, .int .i64 o.no, .slice cQ' o.nq pQ'] 45))
  rw [asz] at R1
  go_enter Tryz.func33, Tryz.ntmps33
  go_wp2_with fail
  generalize hW : (w.alloc (.cells #[.slice cR o.nr pR, .slice cT o.nt pT, .int .i64 o.la, .int .i64 o.lb, .int .i64 o.no, .slice cQ o.nq pQ] 45)).alloc (.cells #[.slice cR' o.nr pR', .slice cT' o.nt pT', .int .i64 o.la, .int .i64 o.lb, .int .i64 o.no, .slice cQ' o.nq pQ'] 45) = W0 at R0 R1 K0 ⊢
  clear hW
  refine (eqExtSS_d cR cR' o.nr pR pR' o.rl o.rf o.rg _ (hik (h.out.1.keep K0.out)) (hik (h'.out.1.keep K0.out)) (hik hs.out.1)).mono ?_
  rintro e W1 ⟨rfl, k1⟩
  have G1 := hik (K0.out.trans k1)
  replace R0 := hik (rowIs_keep R0.out k1)
  replace R1 := hik (rowIs_keep R1.out k1)
  clear k1
  have x1 : _ = some (.slice cT o.nt pT : Value) := R0.out.cell (i := 1) (by omega)
  have y1 : _ = some (.slice cT' o.nt pT' : Value) := R1.out.cell (i := 1) (by omega)
  go_wp2_with fail
  refine (eqStringS_d cT cT' o.nt pT pT' o.ts _ (hik (h.out.2.1.keep G1.out)) (hik (h'.out.2.1.keep G1.out)) hs.out.2.1.1).mono ?_
  rintro e W2 ⟨rfl, k2⟩
  have G2 := hik (G1.out.trans k2)
  replace R0 := hik (rowIs_keep R0.out k2)
  replace R1 := hik (rowIs_keep R1.out k2)
  clear k2 x1 y1
  have x2 : _ = some (.int .i64 o.la : Value) := R0.out.cell (i := 2) (by omega)
  have x3 : _ = some (.int .i64 o.lb : Value) := R0.out.cell (i := 3) (by omega)
  have y2 : _ = some (.int .i64 o.la : Value) := R1.out.cell (i := 2) (by omega)
  have y3 : _ = some (.int .i64 o.lb : Value) := R1.out.cell (i := 3) (by omega)
  go_wp2_with fail
  refine (eqExt_any o.la o.lb _).mono ?_
  rintro e W3 ⟨rfl, k3⟩
  have G3 := hik (G2.out.trans k3)
  replace R0 := hik (rowIs_keep R0.out k3)
  replace R1 := hik (rowIs_keep R1.out k3)
  clear k3 x2 x3 y2 y3
  have x4 : _ = some (.int .i64 o.no : Value) := R0.out.cell (i := 4) (by omega)
  have y4 : _ = some (.int .i64 o.no : Value) := R1.out.cell (i := 4) (by omega)
  have x5 : _ = some (.slice cQ o.nq pQ : Value) := R0.out.cell (i := 5) (by omega)
  have y5 : _ = some (.slice cQ' o.nq pQ' : Value) := R1.out.cell (i := 5) (by omega)
  go_wp2_with fail
  refine (eqQueryS_d cQ cQ' o.nq pQ pQ' o.q _ (hik (h.out.2.2.keep G3.out)) (hik (h'.out.2.2.keep G3.out)) (hik hs.out.2.2)).mono ?_
  rintro e W4 ⟨rfl, k4⟩
  have G4 := hik (G3.out.trans k4)
  clear k4 x4 y4 x5 y5
  go_wp2
  go_ret
  exact ⟨rfl, G4.out⟩

end Go.Proofs.YtfbjlohnbpienaaGreat

namespace Go.Proofs.YtfbjlohnbpienaaGreat
open Go.ChangeShapes Go.WideShapes Go.ChangeAt Go.RowKit
set_option linter.unusedVariables false
set_option maxRecDepth 100000
set_option linter.unusedSimpArgs false

open Go.Deep Go.Joins
set_option maxHeartbeats 4000000 in
theorem szProof_d (p : PD) (a : PA) (left : Int) (w : World) (h : Hid (PrV w p a)) (hb : Hid p.big) (h0 : 0 ≤ left) (h1 : left ≤ 1048576) :
    Calls Tryz.prog 4 #[.agg #[.string p.rt, .slice a.cG p.ng a.pG, .int .i64 p.a0, .int .i64 p.a1, .int .i64 p.b0, .int .i64 p.b1, .int .i64 p.c0, .int .i64 p.c1, .slice a.cW p.nw a.pW, .int .i64 p.v0, .int .i64 p.v1, .slice a.cR p.op.nr a.pR, .slice a.cT p.op.nt a.pT, .int .i64 p.op.la, .int .i64 p.op.lb, .int .i64 p.op.no, .slice a.cQ p.op.nq a.pQ], .int .i64 left] w fun e w' => SzD p.small p.cnt left w e w' := by
  have hrt : p.rt.size ≤ 9223372036854775807 := hb.out.1
  have R0 := hik (rowN_new w 17 #[.string p.rt, .slice a.cG p.ng a.pG, .int .i64 p.a0, .int .i64 p.a1, .int .i64 p.b0, .int .i64 p.b1, .int .i64 p.c0, .int .i64 p.c1, .slice a.cW p.nw a.pW, .int .i64 p.v0, .int .i64 p.v1, .slice a.cR p.op.nr a.pR, .slice a.cT p.op.nt a.pT, .int .i64 p.op.la, .int .i64 p.op.lb, .int .i64 p.op.no, .slice a.cQ p.op.nq a.pQ] 30 rfl)
  have K0 := hik ((Chg.refl nob w).alloc (.cells #[.string p.rt, .slice a.cG p.ng a.pG, .int .i64 p.a0, .int .i64 p.a1, .int .i64 p.b0, .int .i64 p.b1, .int .i64 p.c0, .int .i64 p.c1, .slice a.cW p.nw a.pW, .int .i64 p.v0, .int .i64 p.v1, .slice a.cR p.op.nr a.pR, .slice a.cT p.op.nt a.pT, .int .i64 p.op.la, .int .i64 p.op.lb, .int .i64 p.op.no, .slice a.cQ p.op.nq a.pQ] 30))
  by_cases hs0 : left - (p.rt.size : Int) < 0
  · go_enter Tryz.func4, Tryz.ntmps4
    go_wp2
    go_ret
    exact ⟨-1, rfl, by omega, by omega, fun q => by omega, K0.out⟩
  have hs0' : 0 ≤ left - (p.rt.size : Int) := by omega
  go_enter Tryz.func4, Tryz.ntmps4
  go_wp2_with fail
  generalize hW : w.alloc (.cells #[.string p.rt, .slice a.cG p.ng a.pG, .int .i64 p.a0, .int .i64 p.a1, .int .i64 p.b0, .int .i64 p.b1, .int .i64 p.c0, .int .i64 p.c1, .slice a.cW p.nw a.pW, .int .i64 p.v0, .int .i64 p.v1, .slice a.cR p.op.nr a.pR, .slice a.cT p.op.nt a.pT, .int .i64 p.op.la, .int .i64 p.op.lb, .int .i64 p.op.no, .slice a.cQ p.op.nq a.pQ] 30) = W0 at R0 K0 ⊢
  clear hW
  refine (szExtSS_d a.cG p.ng a.pG p.gl p.gf p.gg (left - (p.rt.size : Int)) _ (hik (h.out.1.keep K0.out)) (hik hb.out.2.1) hs0' (by omega)).mono ?_
  rintro e W1 ⟨r1, rfl, q1, q2, q3, k1⟩
  have G1 := hik (K0.out.trans k1)
  have Q1 := hik q3
  replace R0 := hik (rowIs_keep R0.out k1)
  clear k1 q3
  by_cases hs1 : r1 < 0
  · go_wp2
    go_ret
    exact ⟨-1, rfl, by omega, by omega, fun q => by omega, G1.out⟩
  have x8 : _ = some (.slice a.cW p.nw a.pW : Value) := R0.out.cell (i := 8) (by omega)
  go_wp2_with fail
  refine (szExtSS_d a.cW p.nw a.pW p.wl p.wf p.wg r1 _ (hik (h.out.2.1.keep G1.out)) (hik hb.out.2.2.1) (by omega) (by omega)).mono ?_
  rintro e W2 ⟨r2, rfl, q1, q2, q3, k1⟩
  have G2 := hik (G1.out.trans k1)
  have Q2 := hik q3
  replace R0 := hik (rowIs_keep R0.out k1)
  clear k1 q3 x8
  by_cases hs2 : r2 < 0
  · go_wp2
    go_ret
    exact ⟨-1, rfl, by omega, by omega, fun q => by omega, G2.out⟩
  have x11 : _ = some (.slice a.cR p.op.nr a.pR : Value) := R0.out.cell (i := 11) (by omega)
  have x12 : _ = some (.slice a.cT p.op.nt a.pT : Value) := R0.out.cell (i := 12) (by omega)
  have x13 : _ = some (.int .i64 p.op.la : Value) := R0.out.cell (i := 13) (by omega)
  have x14 : _ = some (.int .i64 p.op.lb : Value) := R0.out.cell (i := 14) (by omega)
  have x15 : _ = some (.int .i64 p.op.no : Value) := R0.out.cell (i := 15) (by omega)
  have x16 : _ = some (.slice a.cQ p.op.nq a.pQ : Value) := R0.out.cell (i := 16) (by omega)
  go_wp2_with fail
  refine (szOpening_d p.op a.cR a.pR a.cT a.pT a.cQ a.pQ r2 _ (hik (h.out.2.2.keep G2.out)) (hik hb.out.2.2.2) (by omega) (by omega)).mono ?_
  rintro e W3 ⟨r3, rfl, q1, q2, q3, k1⟩
  have G3 := hik (G2.out.trans k1)
  have Q3 := hik q3
  replace R0 := hik (rowIs_keep R0.out k1)
  clear k1 q3 x11 x12 x13 x14 x15 x16
  by_cases hs3 : r3 < 0
  · go_wp2
    go_ret
    exact ⟨-1, rfl, by omega, by omega, fun q => by omega, G3.out⟩
  go_wp2
  go_ret
  exact ⟨r3, rfl, by omega, by omega, fun _ => ⟨⟨by omega, (Q1.out (by omega)).1, (Q2.out (by omega)).1, (Q3.out (by omega)).1⟩, by have q4 := (Q1.out (by omega)).2; have q5 := (Q2.out (by omega)).2; have q6 := (Q3.out (by omega)).2; show ((p.rt.size + sumN (fun j => p.gl j) p.ng + sumN (fun j => p.wl j) p.nw + p.op.cnt : Nat) : Int) + r3 ≤ left; omega⟩, G3.out⟩

set_option maxHeartbeats 4000000 in
theorem eqProof_d (p : PD) (a b : PA) (w : World) (h : Hid (PrV w p a)) (h' : Hid (PrV w p b)) (hs : Hid p.small) :
    Calls Tryz.prog 12 #[.agg #[.string p.rt, .slice a.cG p.ng a.pG, .int .i64 p.a0, .int .i64 p.a1, .int .i64 p.b0, .int .i64 p.b1, .int .i64 p.c0, .int .i64 p.c1, .slice a.cW p.nw a.pW, .int .i64 p.v0, .int .i64 p.v1, .slice a.cR p.op.nr a.pR, .slice a.cT p.op.nt a.pT, .int .i64 p.op.la, .int .i64 p.op.lb, .int .i64 p.op.no, .slice a.cQ p.op.nq a.pQ], .agg #[.string p.rt, .slice b.cG p.ng b.pG, .int .i64 p.a0, .int .i64 p.a1, .int .i64 p.b0, .int .i64 p.b1, .int .i64 p.c0, .int .i64 p.c1, .slice b.cW p.nw b.pW, .int .i64 p.v0, .int .i64 p.v1, .slice b.cR p.op.nr b.pR, .slice b.cT p.op.nt b.pT, .int .i64 p.op.la, .int .i64 p.op.lb, .int .i64 p.op.no, .slice b.cQ p.op.nq b.pQ]] w fun e w' => e = .returned (.bool true) ∧ Chg nob w w' := by
  have hrt : p.rt.size ≤ 1048576 := hs.out.1
  have R0 := hik (rowIs_keep (rowN_new w 17 #[.string p.rt, .slice a.cG p.ng a.pG, .int .i64 p.a0, .int .i64 p.a1, .int .i64 p.b0, .int .i64 p.b1, .int .i64 p.c0, .int .i64 p.c1, .slice a.cW p.nw a.pW, .int .i64 p.v0, .int .i64 p.v1, .slice a.cR p.op.nr a.pR, .slice a.cT p.op.nt a.pT, .int .i64 p.op.la, .int .i64 p.op.lb, .int .i64 p.op.no, .slice a.cQ p.op.nq a.pQ] 47 rfl) ((Chg.refl nob _).alloc (.cells #[.string p.rt, .slice b.cG p.ng b.pG, .int .i64 p.a0, .int .i64 p.a1, .int .i64 p.b0, .int .i64 p.b1, .int .i64 p.c0, .int .i64 p.c1, .slice b.cW p.nw b.pW, .int .i64 p.v0, .int .i64 p.v1, .slice b.cR p.op.nr b.pR, .slice b.cT p.op.nt b.pT, .int .i64 p.op.la, .int .i64 p.op.lb, .int .i64 p.op.no, .slice b.cQ p.op.nq b.pQ] 47)))
  have R1 := hik (rowN_new (w.alloc (.cells #[.string p.rt, .slice a.cG p.ng a.pG, .int .i64 p.a0, .int .i64 p.a1, .int .i64 p.b0, .int .i64 p.b1, .int .i64 p.c0, .int .i64 p.c1, .slice a.cW p.nw a.pW, .int .i64 p.v0, .int .i64 p.v1, .slice a.cR p.op.nr a.pR, .slice a.cT p.op.nt a.pT, .int .i64 p.op.la, .int .i64 p.op.lb, .int .i64 p.op.no, .slice a.cQ p.op.nq a.pQ] 47)) 17 #[.string p.rt, .slice b.cG p.ng b.pG, .int .i64 p.a0, .int .i64 p.a1, .int .i64 p.b0, .int .i64 p.b1, .int .i64 p.c0, .int .i64 p.c1, .slice b.cW p.nw b.pW, .int .i64 p.v0, .int .i64 p.v1, .slice b.cR p.op.nr b.pR, .slice b.cT p.op.nt b.pT, .int .i64 p.op.la, .int .i64 p.op.lb, .int .i64 p.op.no, .slice b.cQ p.op.nq b.pQ] 47 rfl)
  have K0 := hik (((Chg.refl nob w).alloc (.cells #[.string p.rt, .slice a.cG p.ng a.pG, .int .i64 p.a0, .int .i64 p.a1, .int .i64 p.b0, .int .i64 p.b1, .int .i64 p.c0, .int .i64 p.c1, .slice a.cW p.nw a.pW, .int .i64 p.v0, .int .i64 p.v1, .slice a.cR p.op.nr a.pR, .slice a.cT p.op.nt a.pT, .int .i64 p.op.la, .int .i64 p.op.lb, .int .i64 p.op.no, .slice a.cQ p.op.nq a.pQ] 47)).alloc (.cells #[.string p.rt, .slice b.cG p.ng b.pG, .int .i64 p.a0, .int .i64 p.a1, .int .i64 p.b0, .int .i64 p.b1, .int .i64 p.c0, .int .i64 p.c1, .slice b.cW p.nw b.pW, .int .i64 p.v0, .int .i64 p.v1, .slice b.cR p.op.nr b.pR, .slice b.cT p.op.nt b.pT, .int .i64 p.op.la, .int .i64 p.op.lb, .int .i64 p.op.no, .slice b.cQ p.op.nq b.pQ] 47))
  rw [asz] at R1
  have hbb : (p.rt.toList == p.rt.toList) = true := by simp
  go_enter Tryz.func12, Tryz.ntmps12
  go_wp2_with fail
  generalize hW : (w.alloc (.cells #[.string p.rt, .slice a.cG p.ng a.pG, .int .i64 p.a0, .int .i64 p.a1, .int .i64 p.b0, .int .i64 p.b1, .int .i64 p.c0, .int .i64 p.c1, .slice a.cW p.nw a.pW, .int .i64 p.v0, .int .i64 p.v1, .slice a.cR p.op.nr a.pR, .slice a.cT p.op.nt a.pT, .int .i64 p.op.la, .int .i64 p.op.lb, .int .i64 p.op.no, .slice a.cQ p.op.nq a.pQ] 47)).alloc (.cells #[.string p.rt, .slice b.cG p.ng b.pG, .int .i64 p.a0, .int .i64 p.a1, .int .i64 p.b0, .int .i64 p.b1, .int .i64 p.c0, .int .i64 p.c1, .slice b.cW p.nw b.pW, .int .i64 p.v0, .int .i64 p.v1, .slice b.cR p.op.nr b.pR, .slice b.cT p.op.nt b.pT, .int .i64 p.op.la, .int .i64 p.op.lb, .int .i64 p.op.no, .slice b.cQ p.op.nq b.pQ] 47) = W0 at R0 R1 K0 ⊢
  clear hW
  refine (eqExtSS_d a.cG b.cG p.ng a.pG b.pG p.gl p.gf p.gg _ (hik (h.out.1.keep K0.out)) (hik (h'.out.1.keep K0.out)) (hik hs.out.2.1)).mono ?_
  rintro e W1 ⟨rfl, kk⟩
  have G1 := hik (K0.out.trans kk)
  replace R0 := hik (rowIs_keep R0.out kk)
  replace R1 := hik (rowIs_keep R1.out kk)
  clear kk
  have x2 : _ = some (.int .i64 p.a0 : Value) := R0.out.cell (i := 2) (by omega)
  have y2 : _ = some (.int .i64 p.a0 : Value) := R1.out.cell (i := 2) (by omega)
  have x3 : _ = some (.int .i64 p.a1 : Value) := R0.out.cell (i := 3) (by omega)
  have y3 : _ = some (.int .i64 p.a1 : Value) := R1.out.cell (i := 3) (by omega)
  go_wp2_with fail
  refine (eqExt_any p.a0 p.a1 _).mono ?_
  rintro e W2 ⟨rfl, kk⟩
  have G2 := hik (G1.out.trans kk)
  replace R0 := hik (rowIs_keep R0.out kk)
  replace R1 := hik (rowIs_keep R1.out kk)
  clear kk x2 y2 x3 y3
  have x4 : _ = some (.int .i64 p.b0 : Value) := R0.out.cell (i := 4) (by omega)
  have y4 : _ = some (.int .i64 p.b0 : Value) := R1.out.cell (i := 4) (by omega)
  have x5 : _ = some (.int .i64 p.b1 : Value) := R0.out.cell (i := 5) (by omega)
  have y5 : _ = some (.int .i64 p.b1 : Value) := R1.out.cell (i := 5) (by omega)
  go_wp2_with fail
  refine (eqExt_any p.b0 p.b1 _).mono ?_
  rintro e W3 ⟨rfl, kk⟩
  have G3 := hik (G2.out.trans kk)
  replace R0 := hik (rowIs_keep R0.out kk)
  replace R1 := hik (rowIs_keep R1.out kk)
  clear kk x4 y4 x5 y5
  have x6 : _ = some (.int .i64 p.c0 : Value) := R0.out.cell (i := 6) (by omega)
  have y6 : _ = some (.int .i64 p.c0 : Value) := R1.out.cell (i := 6) (by omega)
  have x7 : _ = some (.int .i64 p.c1 : Value) := R0.out.cell (i := 7) (by omega)
  have y7 : _ = some (.int .i64 p.c1 : Value) := R1.out.cell (i := 7) (by omega)
  go_wp2_with fail
  refine (eqExt_any p.c0 p.c1 _).mono ?_
  rintro e W4 ⟨rfl, kk⟩
  have G4 := hik (G3.out.trans kk)
  replace R0 := hik (rowIs_keep R0.out kk)
  replace R1 := hik (rowIs_keep R1.out kk)
  clear kk x6 y6 x7 y7
  have x8 : _ = some (.slice a.cW p.nw a.pW : Value) := R0.out.cell (i := 8) (by omega)
  have y8 : _ = some (.slice b.cW p.nw b.pW : Value) := R1.out.cell (i := 8) (by omega)
  go_wp2_with fail
  refine (eqExtSS_d a.cW b.cW p.nw a.pW b.pW p.wl p.wf p.wg _ (hik (h.out.2.1.keep G4.out)) (hik (h'.out.2.1.keep G4.out)) (hik hs.out.2.2.1)).mono ?_
  rintro e W5 ⟨rfl, kk⟩
  have G5 := hik (G4.out.trans kk)
  replace R0 := hik (rowIs_keep R0.out kk)
  replace R1 := hik (rowIs_keep R1.out kk)
  clear kk x8 y8
  have x9 : _ = some (.int .i64 p.v0 : Value) := R0.out.cell (i := 9) (by omega)
  have y9 : _ = some (.int .i64 p.v0 : Value) := R1.out.cell (i := 9) (by omega)
  have x10 : _ = some (.int .i64 p.v1 : Value) := R0.out.cell (i := 10) (by omega)
  have y10 : _ = some (.int .i64 p.v1 : Value) := R1.out.cell (i := 10) (by omega)
  go_wp2_with fail
  refine (eqExt_any p.v0 p.v1 _).mono ?_
  rintro e W6 ⟨rfl, kk⟩
  have G6 := hik (G5.out.trans kk)
  replace R0 := hik (rowIs_keep R0.out kk)
  replace R1 := hik (rowIs_keep R1.out kk)
  clear kk x9 y9 x10 y10
  have x11 : _ = some (.slice a.cR p.op.nr a.pR : Value) := R0.out.cell (i := 11) (by omega)
  have y11 : _ = some (.slice b.cR p.op.nr b.pR : Value) := R1.out.cell (i := 11) (by omega)
  have x12 : _ = some (.slice a.cT p.op.nt a.pT : Value) := R0.out.cell (i := 12) (by omega)
  have y12 : _ = some (.slice b.cT p.op.nt b.pT : Value) := R1.out.cell (i := 12) (by omega)
  have x13 : _ = some (.int .i64 p.op.la : Value) := R0.out.cell (i := 13) (by omega)
  have y13 : _ = some (.int .i64 p.op.la : Value) := R1.out.cell (i := 13) (by omega)
  have x14 : _ = some (.int .i64 p.op.lb : Value) := R0.out.cell (i := 14) (by omega)
  have y14 : _ = some (.int .i64 p.op.lb : Value) := R1.out.cell (i := 14) (by omega)
  have x15 : _ = some (.int .i64 p.op.no : Value) := R0.out.cell (i := 15) (by omega)
  have y15 : _ = some (.int .i64 p.op.no : Value) := R1.out.cell (i := 15) (by omega)
  have x16 : _ = some (.slice a.cQ p.op.nq a.pQ : Value) := R0.out.cell (i := 16) (by omega)
  have y16 : _ = some (.slice b.cQ p.op.nq b.pQ : Value) := R1.out.cell (i := 16) (by omega)
  go_wp2_with fail
  refine (eqOpening_d p.op a.cR a.pR a.cT a.pT a.cQ a.pQ b.cR b.pR b.cT b.pT b.cQ b.pQ _ (hik (h.out.2.2.keep G6.out)) (hik (h'.out.2.2.keep G6.out)) (hik hs.out.2.2.2)).mono ?_
  rintro e W7 ⟨rfl, kk⟩
  have G7 := hik (G6.out.trans kk)
  replace R0 := hik (rowIs_keep R0.out kk)
  replace R1 := hik (rowIs_keep R1.out kk)
  clear kk x11 y11 x12 y12 x13 y13 x14 y14 x15 y15 x16 y16
  go_wp2
  go_ret
  exact ⟨rfl, G7.out⟩

/-- A proof's cells. -/
def pfv (p : PD) (a : PA) (i : Nat) : Value := (#[.string p.rt, .slice a.cG p.ng a.pG, .int .i64 p.a0, .int .i64 p.a1, .int .i64 p.b0, .int .i64 p.b1, .int .i64 p.c0, .int .i64 p.c1, .slice a.cW p.nw a.pW, .int .i64 p.v0, .int .i64 p.v1, .slice a.cR p.op.nr a.pR, .slice a.cT p.op.nt a.pT, .int .i64 p.op.la, .int .i64 p.op.lb, .int .i64 p.op.no, .slice a.cQ p.op.nq a.pQ] : Array Value).getD i undef
theorem infoPf : (Tryz.prog.info? 47).map (·.size) = some 17 := by kernel_rfl
theorem pfv_one (p : PD) (a : PA) (i : Nat) (hi : i < 17) : (pfv p a i).oneCell' = true := by
  rcases (show i = 0 ∨ i = 1 ∨ i = 2 ∨ i = 3 ∨ i = 4 ∨ i = 5 ∨ i = 6 ∨ i = 7 ∨ i = 8 ∨ i = 9 ∨ i = 10 ∨ i = 11 ∨ i = 12 ∨ i = 13 ∨ i = 14 ∨ i = 15 ∨ i = 16 by omega) with rfl | rfl | rfl | rfl | rfl | rfl | rfl | rfl | rfl | rfl | rfl | rfl | rfl | rfl | rfl | rfl | rfl <;> rfl
/-- An opening of a call's own, in blocks from lo to hi. -/
def OpW (w : World) (lo hi : Nat) (o : OD) (cR : Option Addr) (pR : Nat) (cT : Option Addr) (pT : Nat) (cQ : Option Addr) (pQ : Nat) : Prop := OpF w (Iv lo hi) o cR pR cT pT cQ pQ
theorem OpW.of {w : World} {lo m1 m2 hi : Nat} {o : OD} {cR : Option Addr} {pR : Nat} {cT : Option Addr} {pT : Nat} {cQ : Option Addr} {pQ : Nat} (h : OpO w lo m1 m2 hi o cR pR cT pT cQ pQ) : OpW w lo hi o cR pR cT pT cQ pQ := OpF.of h
theorem OpW.chg {P : Nat → Prop} {w w' : World} {lo hi : Nat} {o : OD} {cR : Option Addr} {pR : Nat} {cT : Option Addr} {pT : Nat} {cQ : Option Addr} {pQ : Nat} (h : OpW w lo hi o cR pR cT pT cQ pQ) (k : Chg P w w') (hp : ∀ b, lo ≤ b → b < hi → ¬ P b) : OpW w' lo hi o cR pR cT pT cQ pQ := OpF.chg h k (fun c hc => hp c hc.1 hc.2)
theorem OpW.keep {w w' : World} {lo hi : Nat} {o : OD} {cR : Option Addr} {pR : Nat} {cT : Option Addr} {pT : Nat} {cQ : Option Addr} {pQ : Nat} (h : OpW w lo hi o cR pR cT pT cQ pQ) (k : Chg nob w w') : OpW w' lo hi o cR pR cT pT cQ pQ := OpF.keep h k
/-- A proof of a call's own, in blocks from lo to hi. -/
def PrO (w : World) (lo hi : Nat) (p : PD) (a : PA) : Prop :=
  ∃ SG MG SW MW SO : Nat → Prop, (dEEf p.ng p.gl p.gf p.gg).Own w SG MG (.slice a.cG p.ng a.pG) ∧ (dEEf p.nw p.wl p.wf p.wg).Own w SW MW (.slice a.cW p.nw a.pW) ∧ OpF w SO p.op a.cR a.pR a.cT a.pT a.cQ a.pQ ∧ (∀ c, SG c ∨ SW c ∨ SO c → lo ≤ c ∧ c < hi) ∧ (∀ c, MG c → ¬ SW c ∧ ¬ SO c) ∧ (∀ c, MW c → ¬ SG c ∧ ¬ SO c) ∧ (∀ c, SO c → ¬ SG c ∧ ¬ SW c)
theorem PrO.rep {w : World} {lo hi : Nat} {p : PD} {a : PA} (h : PrO w lo hi p a) : PrV w p a := by
  obtain ⟨SG, MG, SW, MW, SO, oG, oW, oO, _⟩ := h
  exact ⟨(dEEf p.ng p.gl p.gf p.gg).rep oG, (dEEf p.nw p.wl p.wf p.wg).rep oW, oO.rep⟩
theorem PrO.chg {P : Nat → Prop} {w w' : World} {lo hi : Nat} {p : PD} {a : PA} (h : PrO w lo hi p a) (k : Chg P w w') (hp : ∀ b, lo ≤ b → b < hi → ¬ P b) : PrO w' lo hi p a := by
  obtain ⟨SG, MG, SW, MW, SO, oG, oW, oO, hs, q⟩ := h
  exact ⟨SG, MG, SW, MW, SO, (dEEf p.ng p.gl p.gf p.gg).chg k oG (fun c hc => hp c (hs c (.inl hc)).1 (hs c (.inl hc)).2), (dEEf p.nw p.wl p.wf p.wg).chg k oW (fun c hc => hp c (hs c (.inr (.inl hc))).1 (hs c (.inr (.inl hc))).2), oO.chg k (fun c hc => hp c (hs c (.inr (.inr hc))).1 (hs c (.inr (.inr hc))).2), hs, q⟩
theorem PrO.keep {w w' : World} {lo hi : Nat} {p : PD} {a : PA} (h : PrO w lo hi p a) (k : Chg nob w w') : PrO w' lo hi p a := h.chg k (fun _ _ _ x => x)
theorem PrO.mk9 {w : World} {l1 u1 l2 u2 l3 u3 t lo hi : Nat} {p : PD} {a : PA} (h1 : lo + 1 + 1 + 1 ≤ l1) (o1 : p.G.Own w l1 u1 (.slice a.cG p.ng a.pG)) (h2 : u1 ≤ l2) (o2 : p.W.Own w l2 u2 (.slice a.cW p.nw a.pW)) (h3 : u2 ≤ l3) (o3 : OpW w l3 u3 p.op a.cR a.pR a.cT a.pT a.cQ a.pQ) (b1 : u1 ≤ t) (b2 : u2 ≤ t) (b3 : u3 ≤ t) (h5 : t ≤ hi) (e2 : lo + 1 + 1 + 1 ≤ l2) (e3 : lo + 1 + 1 + 1 ≤ l3) (h13 : u1 ≤ l3) : PrO w lo hi p a := by
  refine ⟨Iv l1 u1, Iv l1 u1, Iv l2 u2, Iv l2 u2, Iv l3 u3, dEEf_of o1, dEEf_of o2, o3, fun c hc => ?_, fun c hc => ⟨fun q => ?_, fun q => ?_⟩, fun c hc => ⟨fun q => ?_, fun q => ?_⟩, fun c hc => ⟨fun q => ?_, fun q => ?_⟩⟩ <;> unfold Iv at * <;> omega
def PrAnsO (w : World) (p : PD) (e : Ending) (w' : World) : Prop := ∃ a : PA, e = .returned (.agg #[.string p.rt, .slice a.cG p.ng a.pG, .int .i64 p.a0, .int .i64 p.a1, .int .i64 p.b0, .int .i64 p.b1, .int .i64 p.c0, .int .i64 p.c1, .slice a.cW p.nw a.pW, .int .i64 p.v0, .int .i64 p.v1, .slice a.cR p.op.nr a.pR, .slice a.cT p.op.nt a.pT, .int .i64 p.op.la, .int .i64 p.op.lb, .int .i64 p.op.no, .slice a.cQ p.op.nq a.pQ]) ∧ PrO w' w.heap.size w'.heap.size p a ∧ Chg nob w w'

set_option maxHeartbeats 8000000 in
theorem toProof_o (p : PD) (a : PA) (w : World) (h : Hid (PrV w p a)) (hs : Hid p.small) :
    Calls Tryz.prog 7 #[.agg #[.string p.rt, .slice a.cG p.ng a.pG, .int .i64 p.a0, .int .i64 p.a1, .int .i64 p.b0, .int .i64 p.b1, .int .i64 p.c0, .int .i64 p.c1, .slice a.cW p.nw a.pW, .int .i64 p.v0, .int .i64 p.v1, .slice a.cR p.op.nr a.pR, .slice a.cT p.op.nt a.pT, .int .i64 p.op.la, .int .i64 p.op.lb, .int .i64 p.op.no, .slice a.cQ p.op.nq a.pQ]] w fun e w' => PrAnsO w p e w' := by
  have hrt : p.rt.size ≤ 1048576 := hs.out.1
  have K0 := hik ((((Chg.refl nob w).alloc (.cells #[.string p.rt, .slice a.cG p.ng a.pG, .int .i64 p.a0, .int .i64 p.a1, .int .i64 p.b0, .int .i64 p.b1, .int .i64 p.c0, .int .i64 p.c1, .slice a.cW p.nw a.pW, .int .i64 p.v0, .int .i64 p.v1, .slice a.cR p.op.nr a.pR, .slice a.cT p.op.nt a.pT, .int .i64 p.op.la, .int .i64 p.op.lb, .int .i64 p.op.no, .slice a.cQ p.op.nq a.pQ] 30)).alloc (.cells #[.string ⟨#[]⟩, .slice none 0 0, .int .i64 0, .int .i64 0, .int .i64 0, .int .i64 0, .int .i64 0, .int .i64 0, .slice none 0 0, .int .i64 0, .int .i64 0, .slice none 0 0, .slice none 0 0, .int .i64 0, .int .i64 0, .int .i64 0, .slice none 0 0] 47)).alloc (.cells #[.string p.rt, .slice none 0 0, .int .i64 0, .int .i64 0, .int .i64 0, .int .i64 0, .int .i64 0, .int .i64 0, .slice none 0 0, .int .i64 0, .int .i64 0, .slice none 0 0, .slice none 0 0, .int .i64 0, .int .i64 0, .int .i64 0, .slice none 0 0] 47))
  have R0 := hik (rowIs_keep (rowN_new w 17 #[.string p.rt, .slice a.cG p.ng a.pG, .int .i64 p.a0, .int .i64 p.a1, .int .i64 p.b0, .int .i64 p.b1, .int .i64 p.c0, .int .i64 p.c1, .slice a.cW p.nw a.pW, .int .i64 p.v0, .int .i64 p.v1, .slice a.cR p.op.nr a.pR, .slice a.cT p.op.nt a.pT, .int .i64 p.op.la, .int .i64 p.op.lb, .int .i64 p.op.no, .slice a.cQ p.op.nq a.pQ] 30 rfl) (((Chg.refl nob _).alloc (.cells #[.string ⟨#[]⟩, .slice none 0 0, .int .i64 0, .int .i64 0, .int .i64 0, .int .i64 0, .int .i64 0, .int .i64 0, .slice none 0 0, .int .i64 0, .int .i64 0, .slice none 0 0, .slice none 0 0, .int .i64 0, .int .i64 0, .int .i64 0, .slice none 0 0] 47)).alloc (.cells #[.string p.rt, .slice none 0 0, .int .i64 0, .int .i64 0, .int .i64 0, .int .i64 0, .int .i64 0, .int .i64 0, .slice none 0 0, .int .i64 0, .int .i64 0, .slice none 0 0, .slice none 0 0, .int .i64 0, .int .i64 0, .int .i64 0, .slice none 0 0] 47)))
  have R1 := hik (rowIs_keep (rowN_new (w.alloc (.cells #[.string p.rt, .slice a.cG p.ng a.pG, .int .i64 p.a0, .int .i64 p.a1, .int .i64 p.b0, .int .i64 p.b1, .int .i64 p.c0, .int .i64 p.c1, .slice a.cW p.nw a.pW, .int .i64 p.v0, .int .i64 p.v1, .slice a.cR p.op.nr a.pR, .slice a.cT p.op.nt a.pT, .int .i64 p.op.la, .int .i64 p.op.lb, .int .i64 p.op.no, .slice a.cQ p.op.nq a.pQ] 30)) 17 #[.string ⟨#[]⟩, .slice none 0 0, .int .i64 0, .int .i64 0, .int .i64 0, .int .i64 0, .int .i64 0, .int .i64 0, .slice none 0 0, .int .i64 0, .int .i64 0, .slice none 0 0, .slice none 0 0, .int .i64 0, .int .i64 0, .int .i64 0, .slice none 0 0] 47 rfl) ((Chg.refl nob _).alloc (.cells #[.string p.rt, .slice none 0 0, .int .i64 0, .int .i64 0, .int .i64 0, .int .i64 0, .int .i64 0, .int .i64 0, .slice none 0 0, .int .i64 0, .int .i64 0, .slice none 0 0, .slice none 0 0, .int .i64 0, .int .i64 0, .int .i64 0, .slice none 0 0] 47)))
  have R2 := hik (rowN_new ((w.alloc (.cells #[.string p.rt, .slice a.cG p.ng a.pG, .int .i64 p.a0, .int .i64 p.a1, .int .i64 p.b0, .int .i64 p.b1, .int .i64 p.c0, .int .i64 p.c1, .slice a.cW p.nw a.pW, .int .i64 p.v0, .int .i64 p.v1, .slice a.cR p.op.nr a.pR, .slice a.cT p.op.nt a.pT, .int .i64 p.op.la, .int .i64 p.op.lb, .int .i64 p.op.no, .slice a.cQ p.op.nq a.pQ] 30)).alloc (.cells #[.string ⟨#[]⟩, .slice none 0 0, .int .i64 0, .int .i64 0, .int .i64 0, .int .i64 0, .int .i64 0, .int .i64 0, .slice none 0 0, .int .i64 0, .int .i64 0, .slice none 0 0, .slice none 0 0, .int .i64 0, .int .i64 0, .int .i64 0, .slice none 0 0] 47)) 17 #[.string p.rt, .slice none 0 0, .int .i64 0, .int .i64 0, .int .i64 0, .int .i64 0, .int .i64 0, .int .i64 0, .slice none 0 0, .int .i64 0, .int .i64 0, .slice none 0 0, .slice none 0 0, .int .i64 0, .int .i64 0, .int .i64 0, .slice none 0 0] 47 rfl)
  rw [asz] at R1
  rw [asz, asz] at R2
  have HZ := hik (show (((w.alloc (.cells #[.string p.rt, .slice a.cG p.ng a.pG, .int .i64 p.a0, .int .i64 p.a1, .int .i64 p.b0, .int .i64 p.b1, .int .i64 p.c0, .int .i64 p.c1, .slice a.cW p.nw a.pW, .int .i64 p.v0, .int .i64 p.v1, .slice a.cR p.op.nr a.pR, .slice a.cT p.op.nt a.pT, .int .i64 p.op.la, .int .i64 p.op.lb, .int .i64 p.op.no, .slice a.cQ p.op.nq a.pQ] 30)).alloc (.cells #[.string ⟨#[]⟩, .slice none 0 0, .int .i64 0, .int .i64 0, .int .i64 0, .int .i64 0, .int .i64 0, .int .i64 0, .slice none 0 0, .int .i64 0, .int .i64 0, .slice none 0 0, .slice none 0 0, .int .i64 0, .int .i64 0, .int .i64 0, .slice none 0 0] 47)).alloc (.cells #[.string p.rt, .slice none 0 0, .int .i64 0, .int .i64 0, .int .i64 0, .int .i64 0, .int .i64 0, .int .i64 0, .slice none 0 0, .int .i64 0, .int .i64 0, .slice none 0 0, .slice none 0 0, .int .i64 0, .int .i64 0, .int .i64 0, .slice none 0 0] 47)).heap.size = w.heap.size + 1 + 1 + 1 by simp)
  go_enter Tryz.func7, Tryz.ntmps7
  go_wp2_with fail
  generalize hW : ((w.alloc (.cells #[.string p.rt, .slice a.cG p.ng a.pG, .int .i64 p.a0, .int .i64 p.a1, .int .i64 p.b0, .int .i64 p.b1, .int .i64 p.c0, .int .i64 p.c1, .slice a.cW p.nw a.pW, .int .i64 p.v0, .int .i64 p.v1, .slice a.cR p.op.nr a.pR, .slice a.cT p.op.nt a.pT, .int .i64 p.op.la, .int .i64 p.op.lb, .int .i64 p.op.no, .slice a.cQ p.op.nq a.pQ] 30)).alloc (.cells #[.string ⟨#[]⟩, .slice none 0 0, .int .i64 0, .int .i64 0, .int .i64 0, .int .i64 0, .int .i64 0, .int .i64 0, .slice none 0 0, .int .i64 0, .int .i64 0, .slice none 0 0, .slice none 0 0, .int .i64 0, .int .i64 0, .int .i64 0, .slice none 0 0] 47)).alloc (.cells #[.string p.rt, .slice none 0 0, .int .i64 0, .int .i64 0, .int .i64 0, .int .i64 0, .int .i64 0, .int .i64 0, .slice none 0 0, .int .i64 0, .int .i64 0, .slice none 0 0, .slice none 0 0, .int .i64 0, .int .i64 0, .int .i64 0, .slice none 0 0] 47) = W0 at R0 R1 R2 K0 HZ ⊢
  clear hW
  have LL := hik (show w.heap.size + 1 + 1 + 1 ≤ W0.heap.size by have := HZ.out; omega)
  have x1 : _ = some (.slice a.cG p.ng a.pG : Value) := R0.out.cell (i := 1) (by omega)
  have z0 := R0.out.lt
  refine (toExtSS_d a.cG p.ng a.pG p.gl p.gf p.gg _ (hik (h.out.1.keep K0.out)) (hik hs.out.2.1)).mono ?_
  rintro e W1 ⟨c1, p1, rfl, o1, kk⟩
  replace R0 := hik (rowIs_keep R0.out kk)
  replace R1 := hik (rowIs_keep R1.out kk)
  replace R2 := hik (rowIs_keep R2.out kk)
  replace K0 := hik (K0.out.trans kk)
  have LW := hik kk.size
  have LB := hik (show w.heap.size + 1 + 1 + 1 ≤ W0.heap.size from LL.out)
  have LW9 := hik LW.out
  replace LL := hik (show w.heap.size + 1 + 1 + 1 ≤ W1.heap.size by have := LL.out; have := LW.out; omega)
  clear LW
  obtain ⟨l_1, el_⟩ : ∃ l, l = W0.heap.size := ⟨_, rfl⟩
  obtain ⟨u_1, eu_⟩ : ∃ u, u = W1.heap.size := ⟨_, rfl⟩
  rw [← el_, ← eu_] at o1
  have O1 := hik o1
  have LO1 := hik (show w.heap.size + 1 + 1 + 1 ≤ l_1 by have := LB.out; omega)
  have UB1 := hik (show u_1 ≤ W1.heap.size by omega)
  clear el_ eu_
  clear kk LB LW9 z0 x1 o1
  have y1 : _ = some (.slice none 0 0 : Value) := R2.out.cell (i := 1) (by omega)
  have u1 := R2.out.frozen 1
  have z2 := R2.out.lt
  replace R0 := hik (R0.out.setOther (a := ⟨w.heap.size + 1 + 1, 1, none⟩) (show w.heap.size ≠ w.heap.size + 1 + 1 by omega) (.slice c1 p.ng p1))
  replace R1 := hik (R1.out.setOther (a := ⟨w.heap.size + 1 + 1, 1, none⟩) (show w.heap.size + 1 ≠ w.heap.size + 1 + 1 by omega) (.slice c1 p.ng p1))
  replace R2 := hik (R2.out.set 1 (.slice c1 p.ng p1))
  have kS := hik ((Chg.refl (fun y => y = w.heap.size + 1 + 1) W1).setCell (p := ⟨w.heap.size + 1 + 1, 1, none⟩) (fun _ => rfl) (.slice c1 p.ng p1))
  replace O1 := hik (O1.out.chg kS.out (fun y h1 h2 e => by have := HZ.out; have := LL.out; have := LO1.out; omega))
  replace K0 := hik (K0.out.setCell (p := ⟨w.heap.size + 1 + 1, 1, none⟩) (fun l => absurd l (by simp; omega)) (.slice c1 p.ng p1))
  replace LL := hik (show w.heap.size + 1 + 1 + 1 ≤ (W1.setCell ⟨w.heap.size + 1 + 1, 1, none⟩ (.slice c1 p.ng p1)).heap.size by have := LL.out; simp; omega)
  replace UB1 := hik (show u_1 ≤ (W1.setCell ⟨w.heap.size + 1 + 1, 1, none⟩ (.slice c1 p.ng p1)).heap.size by have := UB1.out; simp; omega)
  clear kS
  have x2 : _ = some (.int .i64 p.a0 : Value) := R0.out.cell (i := 2) (by omega)
  have x3 : _ = some (.int .i64 p.a1 : Value) := R0.out.cell (i := 3) (by omega)
  have z0 := R0.out.lt
  go_wp2_with fail
  generalize hW : W1.setCell ⟨w.heap.size + 1 + 1, 1, none⟩ (.slice c1 p.ng p1) = V1 at R0 R1 R2 K0 LL z0 x2 x3 O1 UB1 ⊢
  clear hW z2 y1 u1
  refine (toExt_any p.a0 p.a1 _).mono ?_
  rintro e W2 ⟨rfl, kk⟩
  replace R0 := hik (rowIs_keep R0.out kk)
  replace R1 := hik (rowIs_keep R1.out kk)
  replace R2 := hik (rowIs_keep R2.out kk)
  replace O1 := hik (O1.out.keep kk)
  replace K0 := hik (K0.out.trans kk)
  have LW := hik kk.size
  have LB := hik (show w.heap.size + 1 + 1 + 1 ≤ V1.heap.size from LL.out)
  have LW9 := hik LW.out
  have UBO1 := hik (show u_1 ≤ V1.heap.size from UB1.out)
  replace LL := hik (show w.heap.size + 1 + 1 + 1 ≤ W2.heap.size by have := LL.out; have := LW.out; omega)
  clear LW
  replace UB1 := hik (Nat.le_trans UB1.out LW9.out)
  clear kk LB LW9 z0 x2 x3  UBO1
  have y2 : _ = some (.int .i64 0 : Value) := R2.out.cell (i := 2) (by omega)
  have u2 := R2.out.frozen 2
  have y3 : _ = some (.int .i64 0 : Value) := R2.out.cell (i := 3) (by omega)
  have u3 := R2.out.frozen 3
  have z2 := R2.out.lt
  replace R0 := hik ((R0.out.setOther (a := ⟨w.heap.size + 1 + 1, 2, none⟩) (show w.heap.size ≠ w.heap.size + 1 + 1 by omega) (.int .i64 p.a0)).setOther (a := ⟨w.heap.size + 1 + 1, 3, none⟩) (show w.heap.size ≠ w.heap.size + 1 + 1 by omega) (.int .i64 p.a1))
  replace R1 := hik ((R1.out.setOther (a := ⟨w.heap.size + 1 + 1, 2, none⟩) (show w.heap.size + 1 ≠ w.heap.size + 1 + 1 by omega) (.int .i64 p.a0)).setOther (a := ⟨w.heap.size + 1 + 1, 3, none⟩) (show w.heap.size + 1 ≠ w.heap.size + 1 + 1 by omega) (.int .i64 p.a1))
  replace R2 := hik ((R2.out.set 2 (.int .i64 p.a0)).set 3 (.int .i64 p.a1))
  have kS := hik (((Chg.refl (fun y => y = w.heap.size + 1 + 1) W2).setCell (p := ⟨w.heap.size + 1 + 1, 2, none⟩) (fun _ => rfl) (.int .i64 p.a0)).setCell (p := ⟨w.heap.size + 1 + 1, 3, none⟩) (fun _ => rfl) (.int .i64 p.a1))
  replace O1 := hik (O1.out.chg kS.out (fun y h1 h2 e => by have := HZ.out; have := LL.out; have := LO1.out; omega))
  replace K0 := hik ((K0.out.setCell (p := ⟨w.heap.size + 1 + 1, 2, none⟩) (fun l => absurd l (by simp; omega)) (.int .i64 p.a0)).setCell (p := ⟨w.heap.size + 1 + 1, 3, none⟩) (fun l => absurd l (by simp; omega)) (.int .i64 p.a1))
  replace LL := hik (show w.heap.size + 1 + 1 + 1 ≤ ((W2.setCell ⟨w.heap.size + 1 + 1, 2, none⟩ (.int .i64 p.a0)).setCell ⟨w.heap.size + 1 + 1, 3, none⟩ (.int .i64 p.a1)).heap.size by have := LL.out; simp; omega)
  replace UB1 := hik (show u_1 ≤ ((W2.setCell ⟨w.heap.size + 1 + 1, 2, none⟩ (.int .i64 p.a0)).setCell ⟨w.heap.size + 1 + 1, 3, none⟩ (.int .i64 p.a1)).heap.size by have := UB1.out; simp; omega)
  clear kS
  have x4 : _ = some (.int .i64 p.b0 : Value) := R0.out.cell (i := 4) (by omega)
  have x5 : _ = some (.int .i64 p.b1 : Value) := R0.out.cell (i := 5) (by omega)
  have z0 := R0.out.lt
  go_wp2_with fail
  generalize hW : (W2.setCell ⟨w.heap.size + 1 + 1, 2, none⟩ (.int .i64 p.a0)).setCell ⟨w.heap.size + 1 + 1, 3, none⟩ (.int .i64 p.a1) = V2 at R0 R1 R2 K0 LL z0 x4 x5 O1 UB1 ⊢
  clear hW z2 y2 u2 y3 u3
  refine (toExt_any p.b0 p.b1 _).mono ?_
  rintro e W3 ⟨rfl, kk⟩
  replace R0 := hik (rowIs_keep R0.out kk)
  replace R1 := hik (rowIs_keep R1.out kk)
  replace R2 := hik (rowIs_keep R2.out kk)
  replace O1 := hik (O1.out.keep kk)
  replace K0 := hik (K0.out.trans kk)
  have LW := hik kk.size
  have LB := hik (show w.heap.size + 1 + 1 + 1 ≤ V2.heap.size from LL.out)
  have LW9 := hik LW.out
  have UBO1 := hik (show u_1 ≤ V2.heap.size from UB1.out)
  replace LL := hik (show w.heap.size + 1 + 1 + 1 ≤ W3.heap.size by have := LL.out; have := LW.out; omega)
  clear LW
  replace UB1 := hik (Nat.le_trans UB1.out LW9.out)
  clear kk LB LW9 z0 x4 x5  UBO1
  have y4 : _ = some (.int .i64 0 : Value) := R2.out.cell (i := 4) (by omega)
  have u4 := R2.out.frozen 4
  have y5 : _ = some (.int .i64 0 : Value) := R2.out.cell (i := 5) (by omega)
  have u5 := R2.out.frozen 5
  have z2 := R2.out.lt
  replace R0 := hik ((R0.out.setOther (a := ⟨w.heap.size + 1 + 1, 4, none⟩) (show w.heap.size ≠ w.heap.size + 1 + 1 by omega) (.int .i64 p.b0)).setOther (a := ⟨w.heap.size + 1 + 1, 5, none⟩) (show w.heap.size ≠ w.heap.size + 1 + 1 by omega) (.int .i64 p.b1))
  replace R1 := hik ((R1.out.setOther (a := ⟨w.heap.size + 1 + 1, 4, none⟩) (show w.heap.size + 1 ≠ w.heap.size + 1 + 1 by omega) (.int .i64 p.b0)).setOther (a := ⟨w.heap.size + 1 + 1, 5, none⟩) (show w.heap.size + 1 ≠ w.heap.size + 1 + 1 by omega) (.int .i64 p.b1))
  replace R2 := hik ((R2.out.set 4 (.int .i64 p.b0)).set 5 (.int .i64 p.b1))
  have kS := hik (((Chg.refl (fun y => y = w.heap.size + 1 + 1) W3).setCell (p := ⟨w.heap.size + 1 + 1, 4, none⟩) (fun _ => rfl) (.int .i64 p.b0)).setCell (p := ⟨w.heap.size + 1 + 1, 5, none⟩) (fun _ => rfl) (.int .i64 p.b1))
  replace O1 := hik (O1.out.chg kS.out (fun y h1 h2 e => by have := HZ.out; have := LL.out; have := LO1.out; omega))
  replace K0 := hik ((K0.out.setCell (p := ⟨w.heap.size + 1 + 1, 4, none⟩) (fun l => absurd l (by simp; omega)) (.int .i64 p.b0)).setCell (p := ⟨w.heap.size + 1 + 1, 5, none⟩) (fun l => absurd l (by simp; omega)) (.int .i64 p.b1))
  replace LL := hik (show w.heap.size + 1 + 1 + 1 ≤ ((W3.setCell ⟨w.heap.size + 1 + 1, 4, none⟩ (.int .i64 p.b0)).setCell ⟨w.heap.size + 1 + 1, 5, none⟩ (.int .i64 p.b1)).heap.size by have := LL.out; simp; omega)
  replace UB1 := hik (show u_1 ≤ ((W3.setCell ⟨w.heap.size + 1 + 1, 4, none⟩ (.int .i64 p.b0)).setCell ⟨w.heap.size + 1 + 1, 5, none⟩ (.int .i64 p.b1)).heap.size by have := UB1.out; simp; omega)
  clear kS
  have x6 : _ = some (.int .i64 p.c0 : Value) := R0.out.cell (i := 6) (by omega)
  have x7 : _ = some (.int .i64 p.c1 : Value) := R0.out.cell (i := 7) (by omega)
  have z0 := R0.out.lt
  go_wp2_with fail
  generalize hW : (W3.setCell ⟨w.heap.size + 1 + 1, 4, none⟩ (.int .i64 p.b0)).setCell ⟨w.heap.size + 1 + 1, 5, none⟩ (.int .i64 p.b1) = V3 at R0 R1 R2 K0 LL z0 x6 x7 O1 UB1 ⊢
  clear hW z2 y4 u4 y5 u5
  refine (toExt_any p.c0 p.c1 _).mono ?_
  rintro e W4 ⟨rfl, kk⟩
  replace R0 := hik (rowIs_keep R0.out kk)
  replace R1 := hik (rowIs_keep R1.out kk)
  replace R2 := hik (rowIs_keep R2.out kk)
  replace O1 := hik (O1.out.keep kk)
  replace K0 := hik (K0.out.trans kk)
  have LW := hik kk.size
  have LB := hik (show w.heap.size + 1 + 1 + 1 ≤ V3.heap.size from LL.out)
  have LW9 := hik LW.out
  have UBO1 := hik (show u_1 ≤ V3.heap.size from UB1.out)
  replace LL := hik (show w.heap.size + 1 + 1 + 1 ≤ W4.heap.size by have := LL.out; have := LW.out; omega)
  clear LW
  replace UB1 := hik (Nat.le_trans UB1.out LW9.out)
  clear kk LB LW9 z0 x6 x7  UBO1
  have y6 : _ = some (.int .i64 0 : Value) := R2.out.cell (i := 6) (by omega)
  have u6 := R2.out.frozen 6
  have y7 : _ = some (.int .i64 0 : Value) := R2.out.cell (i := 7) (by omega)
  have u7 := R2.out.frozen 7
  have z2 := R2.out.lt
  replace R0 := hik ((R0.out.setOther (a := ⟨w.heap.size + 1 + 1, 6, none⟩) (show w.heap.size ≠ w.heap.size + 1 + 1 by omega) (.int .i64 p.c0)).setOther (a := ⟨w.heap.size + 1 + 1, 7, none⟩) (show w.heap.size ≠ w.heap.size + 1 + 1 by omega) (.int .i64 p.c1))
  replace R1 := hik ((R1.out.setOther (a := ⟨w.heap.size + 1 + 1, 6, none⟩) (show w.heap.size + 1 ≠ w.heap.size + 1 + 1 by omega) (.int .i64 p.c0)).setOther (a := ⟨w.heap.size + 1 + 1, 7, none⟩) (show w.heap.size + 1 ≠ w.heap.size + 1 + 1 by omega) (.int .i64 p.c1))
  replace R2 := hik ((R2.out.set 6 (.int .i64 p.c0)).set 7 (.int .i64 p.c1))
  have kS := hik (((Chg.refl (fun y => y = w.heap.size + 1 + 1) W4).setCell (p := ⟨w.heap.size + 1 + 1, 6, none⟩) (fun _ => rfl) (.int .i64 p.c0)).setCell (p := ⟨w.heap.size + 1 + 1, 7, none⟩) (fun _ => rfl) (.int .i64 p.c1))
  replace O1 := hik (O1.out.chg kS.out (fun y h1 h2 e => by have := HZ.out; have := LL.out; have := LO1.out; omega))
  replace K0 := hik ((K0.out.setCell (p := ⟨w.heap.size + 1 + 1, 6, none⟩) (fun l => absurd l (by simp; omega)) (.int .i64 p.c0)).setCell (p := ⟨w.heap.size + 1 + 1, 7, none⟩) (fun l => absurd l (by simp; omega)) (.int .i64 p.c1))
  replace LL := hik (show w.heap.size + 1 + 1 + 1 ≤ ((W4.setCell ⟨w.heap.size + 1 + 1, 6, none⟩ (.int .i64 p.c0)).setCell ⟨w.heap.size + 1 + 1, 7, none⟩ (.int .i64 p.c1)).heap.size by have := LL.out; simp; omega)
  replace UB1 := hik (show u_1 ≤ ((W4.setCell ⟨w.heap.size + 1 + 1, 6, none⟩ (.int .i64 p.c0)).setCell ⟨w.heap.size + 1 + 1, 7, none⟩ (.int .i64 p.c1)).heap.size by have := UB1.out; simp; omega)
  clear kS
  have x8 : _ = some (.slice a.cW p.nw a.pW : Value) := R0.out.cell (i := 8) (by omega)
  have z0 := R0.out.lt
  go_wp2_with fail
  generalize hW : (W4.setCell ⟨w.heap.size + 1 + 1, 6, none⟩ (.int .i64 p.c0)).setCell ⟨w.heap.size + 1 + 1, 7, none⟩ (.int .i64 p.c1) = V4 at R0 R1 R2 K0 LL z0 x8 O1 UB1 ⊢
  clear hW z2 y6 u6 y7 u7
  refine (toExtSS_d a.cW p.nw a.pW p.wl p.wf p.wg _ (hik (h.out.2.1.keep K0.out)) (hik hs.out.2.2.1)).mono ?_
  rintro e W5 ⟨c2, p2, rfl, o2, kk⟩
  replace R0 := hik (rowIs_keep R0.out kk)
  replace R1 := hik (rowIs_keep R1.out kk)
  replace R2 := hik (rowIs_keep R2.out kk)
  replace O1 := hik (O1.out.keep kk)
  replace K0 := hik (K0.out.trans kk)
  have LW := hik kk.size
  have LB := hik (show w.heap.size + 1 + 1 + 1 ≤ V4.heap.size from LL.out)
  have LW9 := hik LW.out
  have UBO1 := hik (show u_1 ≤ V4.heap.size from UB1.out)
  replace LL := hik (show w.heap.size + 1 + 1 + 1 ≤ W5.heap.size by have := LL.out; have := LW.out; omega)
  clear LW
  replace UB1 := hik (Nat.le_trans UB1.out LW9.out)
  obtain ⟨l_2, el_⟩ : ∃ l, l = V4.heap.size := ⟨_, rfl⟩
  obtain ⟨u_2, eu_⟩ : ∃ u, u = W5.heap.size := ⟨_, rfl⟩
  rw [← el_, ← eu_] at o2
  have O2 := hik o2
  have LO2 := hik (show w.heap.size + 1 + 1 + 1 ≤ l_2 by have := LB.out; omega)
  have UB2 := hik (show u_2 ≤ W5.heap.size by omega)
  have OR12 := hik (show u_1 ≤ l_2 by have := UBO1.out; omega)
  clear el_ eu_
  clear kk LB LW9 z0 x8 o2 UBO1
  have y8 : _ = some (.slice none 0 0 : Value) := R2.out.cell (i := 8) (by omega)
  have u8 := R2.out.frozen 8
  have z2 := R2.out.lt
  replace R0 := hik (R0.out.setOther (a := ⟨w.heap.size + 1 + 1, 8, none⟩) (show w.heap.size ≠ w.heap.size + 1 + 1 by omega) (.slice c2 p.nw p2))
  replace R1 := hik (R1.out.setOther (a := ⟨w.heap.size + 1 + 1, 8, none⟩) (show w.heap.size + 1 ≠ w.heap.size + 1 + 1 by omega) (.slice c2 p.nw p2))
  replace R2 := hik (R2.out.set 8 (.slice c2 p.nw p2))
  have kS := hik ((Chg.refl (fun y => y = w.heap.size + 1 + 1) W5).setCell (p := ⟨w.heap.size + 1 + 1, 8, none⟩) (fun _ => rfl) (.slice c2 p.nw p2))
  replace O1 := hik (O1.out.chg kS.out (fun y h1 h2 e => by have := HZ.out; have := LL.out; have := LO1.out; omega))
  replace O2 := hik (O2.out.chg kS.out (fun y h1 h2 e => by have := HZ.out; have := LL.out; have := LO2.out; omega))
  replace K0 := hik (K0.out.setCell (p := ⟨w.heap.size + 1 + 1, 8, none⟩) (fun l => absurd l (by simp; omega)) (.slice c2 p.nw p2))
  replace LL := hik (show w.heap.size + 1 + 1 + 1 ≤ (W5.setCell ⟨w.heap.size + 1 + 1, 8, none⟩ (.slice c2 p.nw p2)).heap.size by have := LL.out; simp; omega)
  replace UB1 := hik (show u_1 ≤ (W5.setCell ⟨w.heap.size + 1 + 1, 8, none⟩ (.slice c2 p.nw p2)).heap.size by have := UB1.out; simp; omega)
  replace UB2 := hik (show u_2 ≤ (W5.setCell ⟨w.heap.size + 1 + 1, 8, none⟩ (.slice c2 p.nw p2)).heap.size by have := UB2.out; simp; omega)
  clear kS
  have x9 : _ = some (.int .i64 p.v0 : Value) := R0.out.cell (i := 9) (by omega)
  have x10 : _ = some (.int .i64 p.v1 : Value) := R0.out.cell (i := 10) (by omega)
  have z0 := R0.out.lt
  go_wp2_with fail
  generalize hW : W5.setCell ⟨w.heap.size + 1 + 1, 8, none⟩ (.slice c2 p.nw p2) = V5 at R0 R1 R2 K0 LL z0 x9 x10 O1 O2 UB1 UB2 ⊢
  clear hW z2 y8 u8
  refine (toExt_any p.v0 p.v1 _).mono ?_
  rintro e W6 ⟨rfl, kk⟩
  replace R0 := hik (rowIs_keep R0.out kk)
  replace R1 := hik (rowIs_keep R1.out kk)
  replace R2 := hik (rowIs_keep R2.out kk)
  replace O1 := hik (O1.out.keep kk)
  replace O2 := hik (O2.out.keep kk)
  replace K0 := hik (K0.out.trans kk)
  have LW := hik kk.size
  have LB := hik (show w.heap.size + 1 + 1 + 1 ≤ V5.heap.size from LL.out)
  have LW9 := hik LW.out
  have UBO1 := hik (show u_1 ≤ V5.heap.size from UB1.out)
  have UBO2 := hik (show u_2 ≤ V5.heap.size from UB2.out)
  replace LL := hik (show w.heap.size + 1 + 1 + 1 ≤ W6.heap.size by have := LL.out; have := LW.out; omega)
  clear LW
  replace UB1 := hik (Nat.le_trans UB1.out LW9.out)
  replace UB2 := hik (Nat.le_trans UB2.out LW9.out)
  clear kk LB LW9 z0 x9 x10  UBO1 UBO2
  have y9 : _ = some (.int .i64 0 : Value) := R2.out.cell (i := 9) (by omega)
  have u9 := R2.out.frozen 9
  have y10 : _ = some (.int .i64 0 : Value) := R2.out.cell (i := 10) (by omega)
  have u10 := R2.out.frozen 10
  have z2 := R2.out.lt
  replace R0 := hik ((R0.out.setOther (a := ⟨w.heap.size + 1 + 1, 9, none⟩) (show w.heap.size ≠ w.heap.size + 1 + 1 by omega) (.int .i64 p.v0)).setOther (a := ⟨w.heap.size + 1 + 1, 10, none⟩) (show w.heap.size ≠ w.heap.size + 1 + 1 by omega) (.int .i64 p.v1))
  replace R1 := hik ((R1.out.setOther (a := ⟨w.heap.size + 1 + 1, 9, none⟩) (show w.heap.size + 1 ≠ w.heap.size + 1 + 1 by omega) (.int .i64 p.v0)).setOther (a := ⟨w.heap.size + 1 + 1, 10, none⟩) (show w.heap.size + 1 ≠ w.heap.size + 1 + 1 by omega) (.int .i64 p.v1))
  replace R2 := hik ((R2.out.set 9 (.int .i64 p.v0)).set 10 (.int .i64 p.v1))
  have kS := hik (((Chg.refl (fun y => y = w.heap.size + 1 + 1) W6).setCell (p := ⟨w.heap.size + 1 + 1, 9, none⟩) (fun _ => rfl) (.int .i64 p.v0)).setCell (p := ⟨w.heap.size + 1 + 1, 10, none⟩) (fun _ => rfl) (.int .i64 p.v1))
  replace O1 := hik (O1.out.chg kS.out (fun y h1 h2 e => by have := HZ.out; have := LL.out; have := LO1.out; omega))
  replace O2 := hik (O2.out.chg kS.out (fun y h1 h2 e => by have := HZ.out; have := LL.out; have := LO2.out; omega))
  replace K0 := hik ((K0.out.setCell (p := ⟨w.heap.size + 1 + 1, 9, none⟩) (fun l => absurd l (by simp; omega)) (.int .i64 p.v0)).setCell (p := ⟨w.heap.size + 1 + 1, 10, none⟩) (fun l => absurd l (by simp; omega)) (.int .i64 p.v1))
  replace LL := hik (show w.heap.size + 1 + 1 + 1 ≤ ((W6.setCell ⟨w.heap.size + 1 + 1, 9, none⟩ (.int .i64 p.v0)).setCell ⟨w.heap.size + 1 + 1, 10, none⟩ (.int .i64 p.v1)).heap.size by have := LL.out; simp; omega)
  replace UB1 := hik (show u_1 ≤ ((W6.setCell ⟨w.heap.size + 1 + 1, 9, none⟩ (.int .i64 p.v0)).setCell ⟨w.heap.size + 1 + 1, 10, none⟩ (.int .i64 p.v1)).heap.size by have := UB1.out; simp; omega)
  replace UB2 := hik (show u_2 ≤ ((W6.setCell ⟨w.heap.size + 1 + 1, 9, none⟩ (.int .i64 p.v0)).setCell ⟨w.heap.size + 1 + 1, 10, none⟩ (.int .i64 p.v1)).heap.size by have := UB2.out; simp; omega)
  clear kS
  have x11 : _ = some (.slice a.cR p.op.nr a.pR : Value) := R0.out.cell (i := 11) (by omega)
  have x12 : _ = some (.slice a.cT p.op.nt a.pT : Value) := R0.out.cell (i := 12) (by omega)
  have x13 : _ = some (.int .i64 p.op.la : Value) := R0.out.cell (i := 13) (by omega)
  have x14 : _ = some (.int .i64 p.op.lb : Value) := R0.out.cell (i := 14) (by omega)
  have x15 : _ = some (.int .i64 p.op.no : Value) := R0.out.cell (i := 15) (by omega)
  have x16 : _ = some (.slice a.cQ p.op.nq a.pQ : Value) := R0.out.cell (i := 16) (by omega)
  have z0 := R0.out.lt
  go_wp2_with fail
  generalize hW : (W6.setCell ⟨w.heap.size + 1 + 1, 9, none⟩ (.int .i64 p.v0)).setCell ⟨w.heap.size + 1 + 1, 10, none⟩ (.int .i64 p.v1) = V6 at R0 R1 R2 K0 LL z0 x11 x12 x13 x14 x15 x16 O1 O2 UB1 UB2 ⊢
  clear hW z2 y9 u9 y10 u10
  refine (toOpening_d p.op a.cR a.pR a.cT a.pT a.cQ a.pQ _ (hik (h.out.2.2.keep K0.out)) (hik hs.out.2.2.2)).mono ?_
  rintro e W7 ⟨cR, pR, cT, pT, cQ, pQ, m1, m2, rfl, hm1, hm2, hm3, oR, oS, oQ, kk⟩
  replace R0 := hik (rowIs_keep R0.out kk)
  replace R1 := hik (rowIs_keep R1.out kk)
  replace R2 := hik (rowIs_keep R2.out kk)
  replace O1 := hik (O1.out.keep kk)
  replace O2 := hik (O2.out.keep kk)
  replace K0 := hik (K0.out.trans kk)
  have LW := hik kk.size
  have LB := hik (show w.heap.size + 1 + 1 + 1 ≤ V6.heap.size from LL.out)
  have LW9 := hik LW.out
  have UBO1 := hik (show u_1 ≤ V6.heap.size from UB1.out)
  have UBO2 := hik (show u_2 ≤ V6.heap.size from UB2.out)
  replace LL := hik (show w.heap.size + 1 + 1 + 1 ≤ W7.heap.size by have := LL.out; have := LW.out; omega)
  clear LW
  replace UB1 := hik (Nat.le_trans UB1.out LW9.out)
  replace UB2 := hik (Nat.le_trans UB2.out LW9.out)
  have o3 := OpW.of (show OpO _ _ m1 m2 _ p.op cR pR cT pT cQ pQ from ⟨hm1, hm2, hm3, oR, oS, oQ⟩)
  obtain ⟨l_3, el_⟩ : ∃ l, l = V6.heap.size := ⟨_, rfl⟩
  obtain ⟨u_3, eu_⟩ : ∃ u, u = W7.heap.size := ⟨_, rfl⟩
  rw [← el_, ← eu_] at o3
  have O3 := hik o3
  have LO3 := hik (show w.heap.size + 1 + 1 + 1 ≤ l_3 by have := LB.out; omega)
  have UB3 := hik (show u_3 ≤ W7.heap.size by omega)
  have OR13 := hik (show u_1 ≤ l_3 by have := UBO1.out; omega)
  have OR23 := hik (show u_2 ≤ l_3 by have := UBO2.out; omega)
  clear el_ eu_
  clear kk LB LW9 z0 x11 x12 x13 x14 x15 x16 o3 oR oS oQ hm1 hm2 hm3 UBO1 UBO2
  have y11 : _ = some (.slice none 0 0 : Value) := R2.out.cell (i := 11) (by omega)
  have u11 := R2.out.frozen 11
  have y12 : _ = some (.slice none 0 0 : Value) := R2.out.cell (i := 12) (by omega)
  have u12 := R2.out.frozen 12
  have y13 : _ = some (.int .i64 0 : Value) := R2.out.cell (i := 13) (by omega)
  have u13 := R2.out.frozen 13
  have y14 : _ = some (.int .i64 0 : Value) := R2.out.cell (i := 14) (by omega)
  have u14 := R2.out.frozen 14
  have y15 : _ = some (.int .i64 0 : Value) := R2.out.cell (i := 15) (by omega)
  have u15 := R2.out.frozen 15
  have y16 : _ = some (.slice none 0 0 : Value) := R2.out.cell (i := 16) (by omega)
  have u16 := R2.out.frozen 16
  have z2 := R2.out.lt
  replace R0 := hik ((((((R0.out.setOther (a := ⟨w.heap.size + 1 + 1, 11, none⟩) (show w.heap.size ≠ w.heap.size + 1 + 1 by omega) (.slice cR p.op.nr pR)).setOther (a := ⟨w.heap.size + 1 + 1, 12, none⟩) (show w.heap.size ≠ w.heap.size + 1 + 1 by omega) (.slice cT p.op.nt pT)).setOther (a := ⟨w.heap.size + 1 + 1, 13, none⟩) (show w.heap.size ≠ w.heap.size + 1 + 1 by omega) (.int .i64 p.op.la)).setOther (a := ⟨w.heap.size + 1 + 1, 14, none⟩) (show w.heap.size ≠ w.heap.size + 1 + 1 by omega) (.int .i64 p.op.lb)).setOther (a := ⟨w.heap.size + 1 + 1, 15, none⟩) (show w.heap.size ≠ w.heap.size + 1 + 1 by omega) (.int .i64 p.op.no)).setOther (a := ⟨w.heap.size + 1 + 1, 16, none⟩) (show w.heap.size ≠ w.heap.size + 1 + 1 by omega) (.slice cQ p.op.nq pQ))
  replace R1 := hik ((((((R1.out.setOther (a := ⟨w.heap.size + 1 + 1, 11, none⟩) (show w.heap.size + 1 ≠ w.heap.size + 1 + 1 by omega) (.slice cR p.op.nr pR)).setOther (a := ⟨w.heap.size + 1 + 1, 12, none⟩) (show w.heap.size + 1 ≠ w.heap.size + 1 + 1 by omega) (.slice cT p.op.nt pT)).setOther (a := ⟨w.heap.size + 1 + 1, 13, none⟩) (show w.heap.size + 1 ≠ w.heap.size + 1 + 1 by omega) (.int .i64 p.op.la)).setOther (a := ⟨w.heap.size + 1 + 1, 14, none⟩) (show w.heap.size + 1 ≠ w.heap.size + 1 + 1 by omega) (.int .i64 p.op.lb)).setOther (a := ⟨w.heap.size + 1 + 1, 15, none⟩) (show w.heap.size + 1 ≠ w.heap.size + 1 + 1 by omega) (.int .i64 p.op.no)).setOther (a := ⟨w.heap.size + 1 + 1, 16, none⟩) (show w.heap.size + 1 ≠ w.heap.size + 1 + 1 by omega) (.slice cQ p.op.nq pQ))
  replace R2 := hik ((((((R2.out.set 11 (.slice cR p.op.nr pR)).set 12 (.slice cT p.op.nt pT)).set 13 (.int .i64 p.op.la)).set 14 (.int .i64 p.op.lb)).set 15 (.int .i64 p.op.no)).set 16 (.slice cQ p.op.nq pQ))
  have kS := hik (((((((Chg.refl (fun y => y = w.heap.size + 1 + 1) W7).setCell (p := ⟨w.heap.size + 1 + 1, 11, none⟩) (fun _ => rfl) (.slice cR p.op.nr pR)).setCell (p := ⟨w.heap.size + 1 + 1, 12, none⟩) (fun _ => rfl) (.slice cT p.op.nt pT)).setCell (p := ⟨w.heap.size + 1 + 1, 13, none⟩) (fun _ => rfl) (.int .i64 p.op.la)).setCell (p := ⟨w.heap.size + 1 + 1, 14, none⟩) (fun _ => rfl) (.int .i64 p.op.lb)).setCell (p := ⟨w.heap.size + 1 + 1, 15, none⟩) (fun _ => rfl) (.int .i64 p.op.no)).setCell (p := ⟨w.heap.size + 1 + 1, 16, none⟩) (fun _ => rfl) (.slice cQ p.op.nq pQ))
  replace O1 := hik (O1.out.chg kS.out (fun y h1 h2 e => by have := HZ.out; have := LL.out; have := LO1.out; omega))
  replace O2 := hik (O2.out.chg kS.out (fun y h1 h2 e => by have := HZ.out; have := LL.out; have := LO2.out; omega))
  replace O3 := hik (O3.out.chg kS.out (fun y h1 h2 e => by have := HZ.out; have := LL.out; have := LO3.out; omega))
  replace K0 := hik ((((((K0.out.setCell (p := ⟨w.heap.size + 1 + 1, 11, none⟩) (fun l => absurd l (by simp; omega)) (.slice cR p.op.nr pR)).setCell (p := ⟨w.heap.size + 1 + 1, 12, none⟩) (fun l => absurd l (by simp; omega)) (.slice cT p.op.nt pT)).setCell (p := ⟨w.heap.size + 1 + 1, 13, none⟩) (fun l => absurd l (by simp; omega)) (.int .i64 p.op.la)).setCell (p := ⟨w.heap.size + 1 + 1, 14, none⟩) (fun l => absurd l (by simp; omega)) (.int .i64 p.op.lb)).setCell (p := ⟨w.heap.size + 1 + 1, 15, none⟩) (fun l => absurd l (by simp; omega)) (.int .i64 p.op.no)).setCell (p := ⟨w.heap.size + 1 + 1, 16, none⟩) (fun l => absurd l (by simp; omega)) (.slice cQ p.op.nq pQ))
  replace LL := hik (show w.heap.size + 1 + 1 + 1 ≤ ((((((W7.setCell ⟨w.heap.size + 1 + 1, 11, none⟩ (.slice cR p.op.nr pR)).setCell ⟨w.heap.size + 1 + 1, 12, none⟩ (.slice cT p.op.nt pT)).setCell ⟨w.heap.size + 1 + 1, 13, none⟩ (.int .i64 p.op.la)).setCell ⟨w.heap.size + 1 + 1, 14, none⟩ (.int .i64 p.op.lb)).setCell ⟨w.heap.size + 1 + 1, 15, none⟩ (.int .i64 p.op.no)).setCell ⟨w.heap.size + 1 + 1, 16, none⟩ (.slice cQ p.op.nq pQ)).heap.size by have := LL.out; simp; omega)
  replace UB1 := hik (show u_1 ≤ ((((((W7.setCell ⟨w.heap.size + 1 + 1, 11, none⟩ (.slice cR p.op.nr pR)).setCell ⟨w.heap.size + 1 + 1, 12, none⟩ (.slice cT p.op.nt pT)).setCell ⟨w.heap.size + 1 + 1, 13, none⟩ (.int .i64 p.op.la)).setCell ⟨w.heap.size + 1 + 1, 14, none⟩ (.int .i64 p.op.lb)).setCell ⟨w.heap.size + 1 + 1, 15, none⟩ (.int .i64 p.op.no)).setCell ⟨w.heap.size + 1 + 1, 16, none⟩ (.slice cQ p.op.nq pQ)).heap.size by have := UB1.out; simp; omega)
  replace UB2 := hik (show u_2 ≤ ((((((W7.setCell ⟨w.heap.size + 1 + 1, 11, none⟩ (.slice cR p.op.nr pR)).setCell ⟨w.heap.size + 1 + 1, 12, none⟩ (.slice cT p.op.nt pT)).setCell ⟨w.heap.size + 1 + 1, 13, none⟩ (.int .i64 p.op.la)).setCell ⟨w.heap.size + 1 + 1, 14, none⟩ (.int .i64 p.op.lb)).setCell ⟨w.heap.size + 1 + 1, 15, none⟩ (.int .i64 p.op.no)).setCell ⟨w.heap.size + 1 + 1, 16, none⟩ (.slice cQ p.op.nq pQ)).heap.size by have := UB2.out; simp; omega)
  replace UB3 := hik (show u_3 ≤ ((((((W7.setCell ⟨w.heap.size + 1 + 1, 11, none⟩ (.slice cR p.op.nr pR)).setCell ⟨w.heap.size + 1 + 1, 12, none⟩ (.slice cT p.op.nt pT)).setCell ⟨w.heap.size + 1 + 1, 13, none⟩ (.int .i64 p.op.la)).setCell ⟨w.heap.size + 1 + 1, 14, none⟩ (.int .i64 p.op.lb)).setCell ⟨w.heap.size + 1 + 1, 15, none⟩ (.int .i64 p.op.no)).setCell ⟨w.heap.size + 1 + 1, 16, none⟩ (.slice cQ p.op.nq pQ)).heap.size by have := UB3.out; simp; omega)
  clear kS
  replace R2 := hik (World.rowIs.congr R2.out (g := pfv p (⟨c1, p1, c2, p2, cR, pR, cT, pT, cQ, pQ⟩ : PA)) (fun i hi => by
    have hi' : i < 17 := hi
    rcases (show i = 0 ∨ i = 1 ∨ i = 2 ∨ i = 3 ∨ i = 4 ∨ i = 5 ∨ i = 6 ∨ i = 7 ∨ i = 8 ∨ i = 9 ∨ i = 10 ∨ i = 11 ∨ i = 12 ∨ i = 13 ∨ i = 14 ∨ i = 15 ∨ i = 16 by omega) with rfl | rfl | rfl | rfl | rfl | rfl | rfl | rfl | rfl | rfl | rfl | rfl | rfl | rfl | rfl | rfl | rfl <;> rfl))
  have LL2 := hik LL.out
  clear R0 LL
  go_wp2_with (first | ((with_reducible refine wpList_load_row rfl 47 (.tmp 3) rfl (w.heap.size + 1 + 1) ?hx 47 (rowA 17 (pfv p (⟨c1, p1, c2, p2, cR, pR, cT, pT, cQ, pQ⟩ : PA))) (0, 0) _ (rowA_of R2.out) Tryz.underlying47 rfl (by rw [rowA_size]; exact infoPf) ?_); (case hx => rfl)) | ((with_reducible refine wpList_store_all 47 (.tmp 2) (.tmp 35) rfl rfl (w.heap.size + 1) 17 (pfv p (⟨c1, p1, c2, p2, cR, pR, cT, pT, cQ, pQ⟩ : PA)) ?hx ?hy 47 _ R1.out infoPf (pfv_one p _) ?_); (case hx => rfl); (case hy => rfl); intro WE r9 g9))
  replace O1 := hik (O1.out.chg g9 (fun y h1 h2 e => by have := LL2.out; have := LO1.out; omega))
  replace O2 := hik (O2.out.chg g9 (fun y h1 h2 e => by have := LL2.out; have := LO2.out; omega))
  replace O3 := hik (O3.out.chg g9 (fun y h1 h2 e => by have := LL2.out; have := LO3.out; omega))
  have KE := hik (K0.out.near g9 (fun b e => by omega))
  have HSE := g9.size
  exact bodyPost_ret (results_cell_row Tryz.results7 _ _ (w.heap.size + 1) 47 (rowA 17 (pfv p (⟨c1, p1, c2, p2, cR, pR, cT, pT, cQ, pQ⟩ : PA))) (0, 0) _ rfl (rowA_of r9) Tryz.underlying47 rfl (by rw [rowA_size]; exact infoPf)) rfl ⟨(⟨c1, p1, c2, p2, cR, pR, cT, pT, cQ, pQ⟩ : PA), rfl, PrO.mk9 LO1.out O1.out OR12.out O2.out OR23.out O3.out UB1.out UB2.out UB3.out HSE LO2.out LO3.out OR13.out, KE.out⟩

section
variable {H : Type} {enc : TypeId × Value → H} {w : World} {base : Nat} {spare : Nat → Bool} {held : Bool}
theorem array17 {α : Type} {cs : Array α} (h : cs.size = 17) : ∃ k0 k1 k2 k3 k4 k5 k6 k7 k8 k9 k10 k11 k12 k13 k14 k15 k16, cs = #[k0, k1, k2, k3, k4, k5, k6, k7, k8, k9, k10, k11, k12, k13, k14, k15, k16] := by
  obtain ⟨l⟩ := cs
  match l, h with
  | [k0, k1, k2, k3, k4, k5, k6, k7, k8, k9, k10, k11, k12, k13, k14, k15, k16], _ => exact ⟨k0, k1, k2, k3, k4, k5, k6, k7, k8, k9, k10, k11, k12, k13, k14, k15, k16, rfl⟩
theorem in_proof {r : Reach} {b0 : Nat} {v : Value} {d : DataW H} {q : List MemPlace} (hv : Value.okWide Tryz.prog w r b0 30 v) (h : DataW.Trod enc Tryz.prog w base spare held 30 v d q) :
    ∃ (p : PD) (a : PA), v = .agg #[.string p.rt, .slice a.cG p.ng a.pG, .int .i64 p.a0, .int .i64 p.a1, .int .i64 p.b0, .int .i64 p.b1, .int .i64 p.c0, .int .i64 p.c1, .slice a.cW p.nw a.pW, .int .i64 p.v0, .int .i64 p.v1, .slice a.cR p.op.nr a.pR, .slice a.cT p.op.nt a.pT, .int .i64 p.op.la, .int .i64 p.op.lb, .int .i64 p.op.no, .slice a.cQ p.op.nq a.pQ] ∧ PrV w p a ∧ p.big := by
  obtain ⟨cs, rfl, hsz⟩ := okWide_struct Tryz.underlying30 hv
  have hc17 : Tryz.prog.cellsOf 30 = 17 := by kernel_rfl
  obtain ⟨k0, k1, k2, k3, k4, k5, k6, k7, k8, k9, k10, k11, k12, k13, k14, k15, k16, rfl⟩ := array17 (hsz.trans hc17)
  obtain ⟨fuel, hf⟩ := h
  obtain ⟨xs, n, _, _, _, hlen, hh⟩ := DataW.trod_struct Tryz.underlying30 hf
  have g0 := hh 0 _ rfl
  have g1 := hh 1 _ rfl
  have g2 := hh 2 _ rfl
  have g3 := hh 3 _ rfl
  have g4 := hh 4 _ rfl
  have g5 := hh 5 _ rfl
  have g6 := hh 6 _ rfl
  have g7 := hh 7 _ rfl
  have e0 : Tryz.prog.cellsOf 22 = 1 := by kernel_rfl
  have e1 : Tryz.prog.cellsOf 9 = 1 := by kernel_rfl
  have e2 : Tryz.prog.cellsOf 24 = 2 := by kernel_rfl
  have e3 : Tryz.prog.cellsOf 3 = 1 := by kernel_rfl
  have e4 : Tryz.prog.cellsOf 26 = 1 := by kernel_rfl
  have e5 : Tryz.prog.cellsOf 28 = 6 := by kernel_rfl
  simp [Value.cells, cells9SS, e0, e1, e2, e3, e4, e5] at g0 g1 g2 g3 g4 g5 g6 g7
  match xs, hlen with
  | [y0, y1, y2, y3, y4, y5, y6, y7], _ =>
    simp at g0 g1 g2 g3 g4 g5 g6 g7
    obtain ⟨rt, er, _, wr⟩ := DataW.trod_string Tryz.underlying9 g0
    obtain ⟨cG, ng, pG, gl, gf, gg, eG, hG, bG⟩ := in_dEE g1
    obtain ⟨cW, nw, pW, wl, wf, wg, eW, hW, bW⟩ := in_dEE g5
    obtain ⟨sa0, sa1, ma, _, _, la0, la1⟩ := trod_struct2 Tryz.underlying24 g2
    simp [e3] at la0 la1
    obtain ⟨a0, ea0, _⟩ := DataW.trod_int Tryz.underlying3 la0
    obtain ⟨a1, ea1, _⟩ := DataW.trod_int Tryz.underlying3 la1
    obtain ⟨sb0, sb1, mb, _, _, lb0, lb1⟩ := trod_struct2 Tryz.underlying24 g3
    simp [e3] at lb0 lb1
    obtain ⟨b0, eb0, _⟩ := DataW.trod_int Tryz.underlying3 lb0
    obtain ⟨b1, eb1, _⟩ := DataW.trod_int Tryz.underlying3 lb1
    obtain ⟨sc0, sc1, mc, _, _, lc0, lc1⟩ := trod_struct2 Tryz.underlying24 g4
    simp [e3] at lc0 lc1
    obtain ⟨c0, ec0, _⟩ := DataW.trod_int Tryz.underlying3 lc0
    obtain ⟨c1, ec1, _⟩ := DataW.trod_int Tryz.underlying3 lc1
    obtain ⟨sv0, sv1, mv, _, _, lv0, lv1⟩ := trod_struct2 Tryz.underlying24 g6
    simp [e3] at lv0 lv1
    obtain ⟨v0, ev0, _⟩ := DataW.trod_int Tryz.underlying3 lv0
    obtain ⟨v1, ev1, _⟩ := DataW.trod_int Tryz.underlying3 lv1
    obtain ⟨ys, n', _, _, _, hlen', hh'⟩ := DataW.trod_struct Tryz.underlying28 g7
    have j0 := hh' 0 _ rfl
    have j1 := hh' 1 _ rfl
    have j2 := hh' 2 _ rfl
    have j3 := hh' 3 _ rfl
    have j4 := hh' 4 _ rfl
    simp [Value.cells, cells9SS, e0, e2, e3, e4] at j0 j1 j2 j3 j4
    match ys, hlen' with
    | [z0, z1, z2, z3, z4], _ =>
      simp at j0 j1 j2 j3 j4
      obtain ⟨cR, nr, pR, rl, rf, rg, eR, hR, bR⟩ := in_dEE j0
      obtain ⟨t, eT, hS, bS⟩ := in_texts j1
      obtain ⟨s0, s1, m', _, _, k0', k1'⟩ := trod_struct2 Tryz.underlying24 j2
      simp [e3] at k0' k1'
      obtain ⟨la, ela, _⟩ := DataW.trod_int Tryz.underlying3 k0'
      obtain ⟨lb, elb, _⟩ := DataW.trod_int Tryz.underlying3 k1'
      obtain ⟨no, eno, _⟩ := DataW.trod_int Tryz.underlying3 j3
      obtain ⟨cQ, nq, pQ, qs, eQ, hQ, bQ⟩ := in_dQs j4
      simp at er ela elb eno ea0 ea1 eb0 eb1 ec0 ec1 ev0 ev1
      subst er eG eW eR eT eQ ela elb eno ea0 ea1 eb0 eb1 ec0 ec1 ev0 ev1
      exact ⟨⟨rt, ng, gl, gf, gg, a0, a1, b0, b1, c0, c1, nw, wl, wf, wg, v0, v1, ⟨nr, rl, rf, rg, t.1.2.1, t.2, la, lb, no, nq, qs⟩⟩, ⟨cG, pG, cW, pW, cR, pR, t.1.1, t.1.2.2, cQ, pQ⟩, rfl, ⟨hG, hW, hR, hS, hQ⟩, by unfold maxLen at wr; exact ⟨by show rt.size ≤ _; omega, bG, bW, bR, bS, bQ⟩⟩
end

end Go.Proofs.YtfbjlohnbpienaaGreat
