/- What the model's value of a polynomial answers: a contract. Conditions: elements of the greater field, a list of at most 4096 that can be read. -/
import Derived.Test.YtagjffjdoimhbapNttM
import Derived.Test.YtagjffjdoimhbapElR
import Derived.Test.YtagjffjdoimhbapRegL
namespace Go.Proofs.Ytagjffjdoimhbap
open Go.ChangeShapes Go.WideShapes Go.ChangeAt Go.RowKit
set_option linter.unusedVariables false
set_option maxRecDepth 100000
set_option linter.unusedSimpArgs false

set_option maxHeartbeats 4000000 in
theorem sAt_any (c : Option Addr) (n cap : Nat) (v : Nat → El) (x : El) (w : World) (h : Hid (PairE w c n v)) (hn : n ≤ 4096) : Calls Try.prog 50 #[.slice c n cap, .agg #[.int .i64 x.v.1, .int .i64 x.v.2]] w fun e w' => e = .returned (.agg #[.int .i64 (El.plt v x 0 n).v.1, .int .i64 (El.plt v x 0 n).v.2]) ∧ Chg nob w w' := by
  go_enter Try.func50, Try.ntmps50
  go_wp2
  go_loopw [6] (fun i W => ∃ u q : Nat, u + q = n ∧ i = .int .i64 ((q : Int) - 1) ∧ Hid (ElB W (w.heap.size + 1 + 1) (El.plt v x q u)) ∧ Hid (ElB W w.heap.size x) ∧ Hid (ElB W (w.heap.size + 1) El.zr) ∧ Hid (Chg nob w W)) (fun i _ => (intOf i + 1).toNat)
  case atStart =>
    refine ⟨0, n, by omega, by first | rfl | go_num, hik ?_, hik ?_, hik ?_, hik ((((Chg.refl nob w).alloc _).alloc _).alloc _)⟩
    · exact (by simpa using ElB.zero ((w.alloc (.cells #[.int .i64 x.v.1, .int .i64 x.v.2] 38)).alloc (.cells #[.int .i64 0, .int .i64 0] 38)) : ElB (((w.alloc (.cells #[.int .i64 x.v.1, .int .i64 x.v.2] 38)).alloc (.cells #[.int .i64 0, .int .i64 0] 38)).alloc (.cells #[.int .i64 0, .int .i64 0] 38)) (w.heap.size + 1 + 1) El.zr)
    · exact ((ElB.new w x).keep ((Chg.refl nob _).alloc _)).keep ((Chg.refl nob _).alloc _)
    · exact ElB.keep (by simpa using ElB.zero (w.alloc (.cells #[.int .i64 x.v.1, .int .i64 x.v.2] 38)) : ElB ((w.alloc (.cells #[.int .i64 x.v.1, .int .i64 x.v.2] 38)).alloc (.cells #[.int .i64 0, .int .i64 0] 38)) (w.heap.size + 1) El.zr) ((Chg.refl nob _).alloc _)
  case round =>
    obtain ⟨u, q, huq, rfl, HO, HX, HR, HG⟩ := hrel
    rename World => wi
    by_cases hq : q = 0
    · subst hq
      obtain rfl : u = n := by omega
      have e0 := HO.out.c0
      have e1 := HO.out.c1
      have c0 : wi.cell? ⟨w.heap.size + 1, 0, none⟩ = some (.int .i64 0) := HR.out.c0
      have c1 : wi.cell? ⟨w.heap.size + 1, 1, none⟩ = some (.int .i64 0) := HR.out.c1
      have f0 := HR.out.fz 0
      have f1 := HR.out.fz 1
      go_wp2
      have u0 := (HR.out.set (El.plt v x 0 u)).c0
      have u1 := (HR.out.set (El.plt v x 0 u)).c1
      exact bodyPost_ret (v := .agg #[.int .i64 (El.plt v x 0 u).v.1, .int .i64 (El.plt v x 0 u).v.2]) (by simp [results, Try.results50, go_sem, u0, u1]) rfl ⟨rfl, chg2_at HG.out (w.heap.size + 1) (fun l => absurd l (by omega)) 0 1 _ _⟩
    · obtain ⟨p, rfl⟩ : ∃ p, q = p + 1 := ⟨q - 1, by omega⟩
      rw [show ((p + 1 : Nat) : Int) - 1 = (p : Int) by omega]
      have hp1 : (p : Int) < (n : Int) := by omega
      have hp0 : (0 : Int) ≤ (p : Int) := by omega
      have hpn : p < n := by omega
      have VY := hik (PairE.keep h.out HG.out)
      obtain ⟨zb, zo, ec, hzb, _, _⟩ := PairE.at_ VY.out hpn
      subst ec
      have z0 := PairE.c0 VY.out hpn
      have z1 := PairE.c1 VY.out hpn
      have hzl : zb < wi.heap.size := by have := HG.out.size; omega
      have x0 := HX.out.c0
      have x1 := HX.out.c1
      have o0 := HO.out.c0
      have o1 := HO.out.c1
      have hol : w.heap.size + 1 + 1 < wi.heap.size := HO.out.lt
      clear VY
      go_wp2
      have KW := hik ((Chg.refl nob wi).drew1)
      have SA := hik (fun (WW : World) (kW : Chg nob wi WW) => (show (WW.cell? ⟨w.heap.size + 1 + 1, 0, none⟩ = some (.int .i64 (El.plt v x (p + 1) u).v.1) ∧ WW.cell? ⟨w.heap.size + 1 + 1, 1, none⟩ = some (.int .i64 (El.plt v x (p + 1) u).v.2) ∧ WW.cell? ⟨w.heap.size, 0, none⟩ = some (.int .i64 x.v.1) ∧ WW.cell? ⟨w.heap.size, 1, none⟩ = some (.int .i64 x.v.2) ∧ WW.cell? ⟨zb, zo + p * 2, none⟩ = some (.int .i64 (v p).v.1) ∧ WW.cell? ⟨zb, zo + p * 2 + 1, none⟩ = some (.int .i64 (v p).v.2)) from ⟨kW.see o0, kW.see o1, kW.see x0, kW.see x1, kW.see z0, kW.see z1⟩))
      refine wp_regionL (L := 8) (S := fun w' => w'.cell? ⟨w.heap.size + 1 + 1, 0, none⟩ = some (.int .i64 (El.plt v x (p + 1) u).v.1) ∧ w'.cell? ⟨w.heap.size + 1 + 1, 1, none⟩ = some (.int .i64 (El.plt v x (p + 1) u).v.2) ∧ w'.cell? ⟨w.heap.size, 0, none⟩ = some (.int .i64 x.v.1) ∧ w'.cell? ⟨w.heap.size, 1, none⟩ = some (.int .i64 x.v.2) ∧ w'.cell? ⟨zb, zo + p * 2, none⟩ = some (.int .i64 (v p).v.1) ∧ w'.cell? ⟨zb, zo + p * 2 + 1, none⟩ = some (.int .i64 (v p).v.2)) (by kernel_rfl) ⟨o0, o1, x0, x1, z0, z1⟩ (fun hHeld => ?_)
      refine wpAnyL_take (i := 0) (v := ?_) rfl (by kernel_rfl) (by kernel_rfl) (by kernel_rfl) (fun _ _ _ h => h) (by rfl) (by kernel_rfl) (by kernel_rfl) (Or.inl ⟨by rfl, ?_⟩) (by assumption) ?_
      rotate_left 1
      · (intro w' hSw; (try dsimp only at hSw); go_simp; try with_reducible rfl)
      try simp only [Act.put, List.setIfInBounds_toArray, List.set_cons_zero, List.set_cons_succ, List.getElem_toArray, List.getElem_cons_zero, List.getElem_cons_succ]
      refine wpAnyL_take (i := 1) (v := ?_) rfl (by kernel_rfl) (by kernel_rfl) (by kernel_rfl) (fun _ _ _ h => h) (by rfl) (by kernel_rfl) (by kernel_rfl) (Or.inl ⟨by rfl, ?_⟩) (by assumption) ?_
      rotate_left 1
      · (intro w' hSw; (try dsimp only at hSw); go_simp; try with_reducible rfl)
      try simp only [Act.put, List.setIfInBounds_toArray, List.set_cons_zero, List.set_cons_succ, List.getElem_toArray, List.getElem_cons_zero, List.getElem_cons_succ]
      refine wpAnyL_take (i := 3) (v := ?_) rfl (by kernel_rfl) (by kernel_rfl) (by kernel_rfl) (fun _ _ _ h => h) (by rfl) (by kernel_rfl) (by kernel_rfl) (Or.inl ⟨by rfl, ?_⟩) (by assumption) ?_
      rotate_left 1
      · (intro w' hSw; (try dsimp only at hSw); go_simp; try with_reducible rfl)
      try simp only [Act.put, List.setIfInBounds_toArray, List.set_cons_zero, List.set_cons_succ, List.getElem_toArray, List.getElem_cons_zero, List.getElem_cons_succ]
      refine wpAnyL_take (i := 4) (v := ?_) rfl (by kernel_rfl) (by kernel_rfl) (by kernel_rfl) (fun _ _ _ h => h) (by rfl) (by kernel_rfl) (by kernel_rfl) (Or.inl ⟨by rfl, ?_⟩) (by assumption) ?_
      rotate_left 1
      · (intro w' hSw; (try dsimp only at hSw); go_simp; try with_reducible rfl)
      try simp only [Act.put, List.setIfInBounds_toArray, List.set_cons_zero, List.set_cons_succ, List.getElem_toArray, List.getElem_cons_zero, List.getElem_cons_succ]
      refine wpAnyL_take (i := 5) (v := ?_) rfl (by kernel_rfl) (by kernel_rfl) (by kernel_rfl) (fun _ _ _ h => h) (by rfl) (by kernel_rfl) (by kernel_rfl) (Or.inl ⟨by rfl, ?_⟩) (by assumption) ?_
      rotate_left 1
      · (intro w' hSw; (try dsimp only at hSw); go_simp; try with_reducible rfl)
      try simp only [Act.put, List.setIfInBounds_toArray, List.set_cons_zero, List.set_cons_succ, List.getElem_toArray, List.getElem_cons_zero, List.getElem_cons_succ]
      refine wpAnyL_take (i := 6) (v := ?_) rfl (by kernel_rfl) (by kernel_rfl) (by kernel_rfl) (fun _ _ _ h => h) (by rfl) (by kernel_rfl) (by kernel_rfl) (Or.inl ⟨by rfl, ?_⟩) (by assumption) ?_
      rotate_left 1
      · (intro w' hSw; (try dsimp only at hSw); go_simp; try with_reducible rfl)
      try simp only [Act.put, List.setIfInBounds_toArray, List.set_cons_zero, List.set_cons_succ, List.getElem_toArray, List.getElem_cons_zero, List.getElem_cons_succ]
      refine wpAnyL_ready (rs := [2]) (by kernel_rfl) (by simp) ?_
      refine AllReadyL.cons rfl (fun K hK => ?_) AllReadyL.nil
      refine stepL_callN 58 #[.tmp 15, .tmp 16] #[38, 38] (by rfl) (by rfl) #[.agg #[.int .i64 (El.plt v x (p + 1) u).v.1, .int .i64 (El.plt v x (p + 1) u).v.2], .agg #[.int .i64 x.v.1, .int .i64 x.v.2]] (by simp only [List.map_toArray, List.map_cons, List.map_nil] <;> rfl) (run_go Try.func58 (by kernel_rfl) (by kernel_rfl) _ _) (sMl_el (El.plt v x (p + 1) u) x _) ?_
      rintro e U1 ⟨he, kk⟩
      refine ⟨_, he, ?_⟩
      replace KW := hik (KW.out.trans kk)
      refine hK.out _ _ (SA.out _ KW.out) (fun hHeld => ?_)
      clear hK K
      try simp only [Act.put, List.setIfInBounds_toArray, List.set_cons_zero, List.set_cons_succ, List.getElem_toArray, List.getElem_cons_zero, List.getElem_cons_succ]
      clear he kk
      refine wpAnyL_ready (rs := [7]) (by kernel_rfl) (by simp) ?_
      refine AllReadyL.cons rfl (fun K hK => ?_) AllReadyL.nil
      refine stepL_callN 68 #[.tmp 17, .tmp 21] #[38, 38] (by rfl) (by rfl) #[.agg #[.int .i64 (El.ml (El.plt v x (p + 1) u) x).v.1, .int .i64 (El.ml (El.plt v x (p + 1) u) x).v.2], .agg #[.int .i64 (v p).v.1, .int .i64 (v p).v.2]] (by simp only [List.map_toArray, List.map_cons, List.map_nil] <;> rfl) (run_go Try.func68 (by kernel_rfl) (by kernel_rfl) _ _) (sAd_el (El.ml (El.plt v x (p + 1) u) x) (v p) _) ?_
      rintro e U2 ⟨he, kk⟩
      refine ⟨_, he, ?_⟩
      replace KW := hik (KW.out.trans kk)
      refine hK.out _ _ (SA.out _ KW.out) (fun hHeld => ?_)
      clear hK K
      try simp only [Act.put, List.setIfInBounds_toArray, List.set_cons_zero, List.set_cons_succ, List.getElem_toArray, List.getElem_cons_zero, List.getElem_cons_succ]
      clear he kk
      refine wpAnyL_ready (rs := [8]) (by kernel_rfl) (by simp) ?_
      refine AllReadyL.last rfl (by kernel_rfl) (fun K hK => ?_)
      have EN := hik (HO.out.keep KW.out)
      have g0 := EN.out.c0
      have g1 := EN.out.c1
      have f0 := EN.out.fz 0
      have f1 := EN.out.fz 1
      have ln : w.heap.size + 1 + 1 < U2.heap.size := EN.out.lt
      simp only [List.getElem_toArray, List.getElem_cons_zero, List.getElem_cons_succ]
      go_simp
      refine hK.out _ _ ?_
      clear hK K
      try simp only [Act.put, List.setIfInBounds_toArray, List.set_cons_zero, List.set_cons_succ, List.getElem_toArray, List.getElem_cons_zero, List.getElem_cons_succ]
      clear g0 g1 f0 f1 ln
      refine wpAnyL_done (by kernel_rfl) ?_ _
      have E2 := hik (show ElB ((U2.setCell ⟨w.heap.size + 1 + 1, 0, none⟩ (.int .i64 (El.ad (El.ml (El.plt v x (p + 1) u) x) (v p)).v.1)).setCell ⟨w.heap.size + 1 + 1, 1, none⟩ (.int .i64 (El.ad (El.ml (El.plt v x (p + 1) u) x) (v p)).v.2)) (w.heap.size + 1 + 1) (El.plt v x p (u + 1)) from EN.out.set (El.ad (El.ml (El.plt v x (p + 1) u) x) (v p)))
      have X5 := hik (ElB.other (HX.out.keep KW.out) (g := w.heap.size + 1 + 1) (by omega) 0 1 (.int .i64 (El.ad (El.ml (El.plt v x (p + 1) u) x) (v p)).v.1) (.int .i64 (El.ad (El.ml (El.plt v x (p + 1) u) x) (v p)).v.2))
      have R5 := hik (ElB.other (HR.out.keep KW.out) (g := w.heap.size + 1 + 1) (by omega) 0 1 (.int .i64 (El.ad (El.ml (El.plt v x (p + 1) u) x) (v p)).v.1) (.int .i64 (El.ad (El.ml (El.plt v x (p + 1) u) x) (v p)).v.2))
      have G2 := hik (chg2_at (HG.out.trans KW.out) (w.heap.size + 1 + 1) (fun l => absurd l (by omega)) 0 1 (.int .i64 (El.ad (El.ml (El.plt v x (p + 1) u) x) (v p)).v.1) (.int .i64 (El.ad (El.ml (El.plt v x (p + 1) u) x) (v p)).v.2))
      generalize hE : ((U2.setCell ⟨w.heap.size + 1 + 1, 0, none⟩ (.int .i64 (El.ad (El.ml (El.plt v x (p + 1) u) x) (v p)).v.1)).setCell ⟨w.heap.size + 1 + 1, 1, none⟩ (.int .i64 (El.ad (El.ml (El.plt v x (p + 1) u) x) (v p)).v.2)) = W5 at E2 X5 R5 G2 ⊢
      clear hE EN KW SA hHeld o0 o1 x0 x1 z0 z1 HO HX HR HG
      go_wp2
      go_roundw
      case rel => exact ⟨u + 1, p, by omega, by first | rfl | go_num, E2, X5, R5, G2⟩
      case measure => simp [intOf]
end Go.Proofs.Ytagjffjdoimhbap
