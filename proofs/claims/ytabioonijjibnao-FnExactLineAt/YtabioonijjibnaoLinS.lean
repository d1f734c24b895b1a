/- What the model's polynomial through values answers: contracts. Conditions: rows that can be read, lengths of at most 2 to the 40. -/
import Derived.Test.YtabioonijjibnaoLinQ
import Derived.Test.YtabioonijjibnaoTabT
namespace Go.Proofs.Ytabioonijjibnao
open Go.ChangeShapes Go.WideShapes Go.ChangeAt Go.RowKit
set_option linter.unusedVariables false
set_option maxRecDepth 100000
set_option linter.unusedSimpArgs false

theorem lgd_b (i : Nat) : ∀ k, (El.lgp El.on (El.nb i) i k).v.2 = 0 := by
  intro k
  induction k with
  | zero => rfl
  | succ k ih =>
    rw [El.lgp]
    by_cases e : k = i
    · rw [if_pos e, ih]
    · rw [if_neg e]
      show Fld.mB _ _ _ _ = 0
      unfold Fld.mB
      rw [ih]
      simp [El.sb, El.nb]
theorem lgd_a {i k : Nat} (hi : i < 100) (hk : k < 100) (h : ¬ k = i) : (El.lgp El.on (El.nb i) i k).v.1 * (((i : Int) + 2130706433 - (k : Int)) % 2130706433) % 2130706433 = (El.lgp El.on (El.nb i) i (k + 1)).v.1 := by
  rw [El.lgp, if_neg h]
  show _ = Fld.mA _ _ _ _
  unfold Fld.mA
  rw [lgd_b]
  have e : (El.sb (El.nb i) (El.nb k)).v.1 = ((i : Int) + 2130706433 - (k : Int)) % 2130706433 := by
    show ((El.nb i).v.1 + 2130706433 - (El.nb k).v.1) % 2130706433 = _
    rw [nb_v hi, nb_v hk]
  rw [e]
  simp
theorem el_inv {D : El} (hb : D.v.2 = 0) (hne : D ≠ El.zr) : (El.inv D).v.1 = Fld.pw D.v.1 2130706431 % 2130706433 ∧ (El.inv D).v.2 = 0 := by
  have hpos : 0 < D.v.1 := by
    have := D.lo1
    have h0 : D.v.1 ≠ 0 := fun e => hne (El.eq2 e hb)
    omega
  have hm := Fld.inv_mul D.v.1 hpos D.hi1
  obtain ⟨Y, hY1, hY2⟩ : ∃ Y : El, Y.v.1 = Fld.pw D.v.1 2130706431 % 2130706433 ∧ Y.v.2 = 0 := ⟨⟨(Fld.pw D.v.1 2130706431 % 2130706433, 0), by unfold Fld.Red; dsimp only; omega⟩, rfl, rfl⟩
  have e : El.ml Y D = El.on := by
    refine El.eq2 ?_ ?_
    · show Fld.mA _ _ _ _ = 1
      unfold Fld.mA
      rw [hY1, hY2, hb]
      simpa using hm
    · show Fld.mB _ _ _ _ = 0
      unfold Fld.mB
      rw [hY2, hb]
      simp
  rw [← El.inv_of e]
  exact ⟨hY1, hY2⟩

theorem sOf_nb (k : Nat) (hk : k < 100) (w : World) : Calls Try.prog 57 #[.int .i64 (k : Int)] w fun e w' => e = .returned (.agg #[.int .i64 (El.nb k).v.1, .int .i64 (El.nb k).v.2]) ∧ Chg nob w w' :=
  (l02Of_any (k : Int) w).mono (fun e w' h => ⟨by rw [h.1, nb_v hk, nb_w], by rw [h.2]; exact (Chg.refl nob w).alloc _⟩)

theorem sOf_inv (D : El) (hb : D.v.2 = 0) (hne : D ≠ El.zr) (w : World) : Calls Try.prog 57 #[.int .i64 (Fld.pw D.v.1 2130706431 % 2130706433)] w fun e w' => e = .returned (.agg #[.int .i64 (El.inv D).v.1, .int .i64 (El.inv D).v.2]) ∧ Chg nob w w' :=
  (l02Of_any _ w).mono (fun e w' h => ⟨by rw [h.1, (el_inv hb hne).1, (el_inv hb hne).2], by rw [h.2]; exact (Chg.refl nob w).alloc _⟩)

theorem sInv_c (D : El) (w : World) : Calls Try.prog 60 #[.int .i64 D.v.1] w fun e w' => e = .returned (.int .i64 (Fld.pw D.v.1 2130706431 % 2130706433)) ∧ Chg nob w w' :=
  (l01Inverse_any D.v.1 w D.lo1 D.hi1).mono (fun e w' h => ⟨h.1, by rw [h.2]; exact Chg.refl nob w⟩)

set_option maxHeartbeats 4000000 in
theorem sLine_any (c : Option Addr) (n cap : Nat) (v : Nat → El) (x : El) (w : World) (h : Hid (PairE w c n v)) (hn : n ≤ 8) : Calls Try.prog 42 #[.slice c n cap, .agg #[.int .i64 x.v.1, .int .i64 x.v.2]] w fun e w' => e = .returned (.agg #[.int .i64 (El.lag v x n).v.1, .int .i64 (El.lag v x n).v.2]) ∧ Chg nob w w' := by
  go_enter Try.func42, Try.ntmps42
  go_wp2
  go_loopw [6] (fun i W => ∃ u : Nat, u ≤ n ∧ i = .int .i64 u ∧ Hid (ElB W (w.heap.size + 1 + 1) (El.sm (fun i => El.ml (El.lgp (v i) x i n) (El.inv (El.lgp El.on (El.nb i) i n))) u)) ∧ Hid (ElB W w.heap.size x) ∧ Hid (ElB W (w.heap.size + 1) El.zr) ∧ Hid (Chg nob w W)) (fun i _ => n - (intOf i).toNat)
  case atStart =>
    refine ⟨0, Nat.zero_le _, rfl, hik ?_, hik ?_, hik ?_, hik ((((Chg.refl nob w).alloc _).alloc _).alloc _)⟩
    · exact (by simpa using ElB.zero ((w.alloc (.cells #[.int .i64 x.v.1, .int .i64 x.v.2] 25)).alloc (.cells #[.int .i64 0, .int .i64 0] 25)) : ElB (((w.alloc (.cells #[.int .i64 x.v.1, .int .i64 x.v.2] 25)).alloc (.cells #[.int .i64 0, .int .i64 0] 25)).alloc (.cells #[.int .i64 0, .int .i64 0] 25)) (w.heap.size + 1 + 1) El.zr)
    · exact ((ElB.new w x).keep ((Chg.refl nob _).alloc _)).keep ((Chg.refl nob _).alloc _)
    · exact ElB.keep (by simpa using ElB.zero (w.alloc (.cells #[.int .i64 x.v.1, .int .i64 x.v.2] 25)) : ElB ((w.alloc (.cells #[.int .i64 x.v.1, .int .i64 x.v.2] 25)).alloc (.cells #[.int .i64 0, .int .i64 0] 25)) (w.heap.size + 1) El.zr) ((Chg.refl nob _).alloc _)
  case round =>
    obtain ⟨u, hu, rfl, HO, HX, HR, HG⟩ := hrel
    rename World => wo
    by_cases hlt : u < n
    · have hu1 : (u : Int) < (n : Int) := by omega
      have hu0 : (0 : Int) ≤ (u : Int) := by omega
      have VY := hik (PairE.keep h.out HG.out)
      obtain ⟨zb, zo, ec, hzb, _, _⟩ := PairE.at_ VY.out hlt
      subst ec
      have z0 := PairE.c0 VY.out hlt
      have z1 := PairE.c1 VY.out hlt
      have hol : w.heap.size + 1 + 1 < wo.heap.size := HO.out.lt
      go_wp2
      clear z0 z1 VY
      go_loopw [8, 9] (fun d k W => ∃ q : Nat, q ≤ n ∧ k = .int .i64 q ∧ d = .int .i64 (El.lgp El.on (El.nb u) u q).v.1 ∧ Hid (ElB W wo.heap.size (El.lgp (v u) x u q)) ∧ Hid (Chg nob wo W)) (fun _ k _ => n - (intOf k).toNat)
      case atStart => exact ⟨0, Nat.zero_le _, rfl, rfl, hik (ElB.new wo (v u)), hik ((Chg.refl nob wo).alloc _)⟩
      case round =>
        obtain ⟨q, hq, rfl, rfl, HY, HH⟩ := hrel
        rename World => wi
        by_cases hlq : q < n
        · have hq1 : (q : Int) < (n : Int) := by omega
          by_cases hqu : q = u
          · have HY2 := hik (show ElB wi wo.heap.size (El.lgp (v u) x u (q + 1)) by rw [El.lgp, if_pos hqu]; exact HY.out)
            have HD2 := hik (show El.lgp El.on (El.nb u) u q = El.lgp El.on (El.nb u) u (q + 1) by rw [El.lgp, if_pos hqu])
            have hne : ((q : Int) != (u : Int)) = false := by rw [hqu]; simp
            have HQU := hik hqu
            clear hqu
            go_wp2
            go_roundw
            case rel => exact ⟨q + 1, by omega, by go_num, by rw [HD2.out], HY2, HH⟩
            case measure => simp [intOf]; omega
          · have hne : ((q : Int) != (u : Int)) = true := bne_iff_ne.2 (by omega)
            have HD2 := hik (lgd_a (i := u) (k := q) (by omega) (by omega) hqu)
            have HQU := hik hqu
            have HX3 := hik (HX.out.keep HH.out)
            have x0 := HX3.out.c0
            have x1 := HX3.out.c1
            have y0 := HY.out.c0
            have y1 := HY.out.c1
            have hyl : wo.heap.size < wi.heap.size := HY.out.lt
            clear hqu HX3
            obtain ⟨DD, hDD⟩ : ∃ DD, DD = El.lgp El.on (El.nb u) u q := ⟨_, rfl⟩
            rw [← hDD] at HD2 ⊢
            have HDD := hik hDD
            clear hDD
            go_wp2
            have KW := hik ((Chg.refl nob wi).drew1)
            have SA := hik (fun (WW : World) (kW : Chg nob wi WW) => (show (WW.cell? ⟨wo.heap.size, 0, none⟩ = some (.int .i64 (El.lgp (v u) x u q).v.1) ∧ WW.cell? ⟨wo.heap.size, 1, none⟩ = some (.int .i64 (El.lgp (v u) x u q).v.2) ∧ WW.cell? ⟨w.heap.size, 0, none⟩ = some (.int .i64 x.v.1) ∧ WW.cell? ⟨w.heap.size, 1, none⟩ = some (.int .i64 x.v.2)) from ⟨kW.see y0, kW.see y1, kW.see x0, kW.see x1⟩))
            refine wp_regionL (L := 6) (S := fun w' => w'.cell? ⟨wo.heap.size, 0, none⟩ = some (.int .i64 (El.lgp (v u) x u q).v.1) ∧ w'.cell? ⟨wo.heap.size, 1, none⟩ = some (.int .i64 (El.lgp (v u) x u q).v.2) ∧ w'.cell? ⟨w.heap.size, 0, none⟩ = some (.int .i64 x.v.1) ∧ w'.cell? ⟨w.heap.size, 1, none⟩ = some (.int .i64 x.v.2)) (by kernel_rfl) ⟨y0, y1, x0, x1⟩ (fun hHeld => ?_)
            refine wpAnyL_take (i := 0) (v := ?_) rfl (by kernel_rfl) (by kernel_rfl) (by kernel_rfl) (fun _ _ _ h => h) (by rfl) (by kernel_rfl) (by kernel_rfl) (Or.inl ⟨by rfl, ?_⟩) (by assumption) ?_
            rotate_left 1
            · (intro w' hSw; (try dsimp only at hSw); go_simp; try with_reducible rfl)
            try simp only [Act.put, List.setIfInBounds_toArray, List.set_cons_zero, List.set_cons_succ, List.getElem_toArray, List.getElem_cons_zero, List.getElem_cons_succ]
            refine wpAnyL_take (i := 1) (v := ?_) rfl (by kernel_rfl) (by kernel_rfl) (by kernel_rfl) (fun _ _ _ h => h) (by rfl) (by kernel_rfl) (by kernel_rfl) (Or.inl ⟨by rfl, ?_⟩) (by assumption) ?_
            rotate_left 1
            · (intro w' hSw; (try dsimp only at hSw); go_simp; try with_reducible rfl)
            try simp only [Act.put, List.setIfInBounds_toArray, List.set_cons_zero, List.set_cons_succ, List.getElem_toArray, List.getElem_cons_zero, List.getElem_cons_succ]
            refine wpAnyL_take (i := 2) (v := ?_) rfl (by kernel_rfl) (by kernel_rfl) (by kernel_rfl) (fun _ _ _ h => h) (by rfl) (by kernel_rfl) (by kernel_rfl) (Or.inl ⟨by rfl, ?_⟩) (by assumption) ?_
            rotate_left 1
            · (intro w' hSw; (try dsimp only at hSw); go_simp; try with_reducible rfl)
            try simp only [Act.put, List.setIfInBounds_toArray, List.set_cons_zero, List.set_cons_succ, List.getElem_toArray, List.getElem_cons_zero, List.getElem_cons_succ]
            refine wpAnyL_ready (rs := [3]) (by kernel_rfl) (by simp) ?_
            refine AllReadyL.cons rfl (fun K hK => ?_) AllReadyL.nil
            refine stepL_callN 57 #[.tmp 32] #[3] (by rfl) (by rfl) #[.int .i64 (q : Int)] (by simp only [List.map_toArray, List.map_cons, List.map_nil] <;> rfl) (run_go Try.func57 (by kernel_rfl) (by kernel_rfl) _ _) (sOf_nb q (by omega) _) ?_
            rintro e U1 ⟨he, kk⟩
            refine ⟨_, he, ?_⟩
            replace KW := hik (KW.out.trans kk)
            refine hK.out _ _ (SA.out _ KW.out) (fun hHeld => ?_)
            clear hK K
            try simp only [Act.put, List.setIfInBounds_toArray, List.set_cons_zero, List.set_cons_succ, List.getElem_toArray, List.getElem_cons_zero, List.getElem_cons_succ]
            clear he kk
            refine wpAnyL_ready (rs := [4]) (by kernel_rfl) (by simp) ?_
            refine AllReadyL.cons rfl (fun K hK => ?_) AllReadyL.nil
            refine stepL_callN 51 #[.tmp 31, .tmp 33] #[25, 25] (by rfl) (by rfl) #[.agg #[.int .i64 x.v.1, .int .i64 x.v.2], .agg #[.int .i64 (El.nb q).v.1, .int .i64 (El.nb q).v.2]] (by simp only [List.map_toArray, List.map_cons, List.map_nil] <;> rfl) (run_go Try.func51 (by kernel_rfl) (by kernel_rfl) _ _) (sSb_el x (El.nb q) _) ?_
            rintro e U2 ⟨he, kk⟩
            refine ⟨_, he, ?_⟩
            replace KW := hik (KW.out.trans kk)
            refine hK.out _ _ (SA.out _ KW.out) (fun hHeld => ?_)
            clear hK K
            try simp only [Act.put, List.setIfInBounds_toArray, List.set_cons_zero, List.set_cons_succ, List.getElem_toArray, List.getElem_cons_zero, List.getElem_cons_succ]
            clear he kk
            refine wpAnyL_ready (rs := [5]) (by kernel_rfl) (by simp) ?_
            refine AllReadyL.cons rfl (fun K hK => ?_) AllReadyL.nil
            refine stepL_callN 48 #[.tmp 30, .tmp 34] #[25, 25] (by rfl) (by rfl) #[.agg #[.int .i64 (El.lgp (v u) x u q).v.1, .int .i64 (El.lgp (v u) x u q).v.2], .agg #[.int .i64 (El.sb x (El.nb q)).v.1, .int .i64 (El.sb x (El.nb q)).v.2]] (by simp only [List.map_toArray, List.map_cons, List.map_nil] <;> rfl) (run_go Try.func48 (by kernel_rfl) (by kernel_rfl) _ _) (sMl_el (El.lgp (v u) x u q) (El.sb x (El.nb q)) _) ?_
            rintro e U3 ⟨he, kk⟩
            refine ⟨_, he, ?_⟩
            replace KW := hik (KW.out.trans kk)
            refine hK.out _ _ (SA.out _ KW.out) (fun hHeld => ?_)
            clear hK K
            try simp only [Act.put, List.setIfInBounds_toArray, List.set_cons_zero, List.set_cons_succ, List.getElem_toArray, List.getElem_cons_zero, List.getElem_cons_succ]
            clear he kk
            refine wpAnyL_ready (rs := [6]) (by kernel_rfl) (by simp) ?_
            refine AllReadyL.last rfl (by kernel_rfl) (fun K hK => ?_)
            have EN := hik (HY.out.keep KW.out)
            have g0 := EN.out.c0
            have g1 := EN.out.c1
            have f0 := EN.out.fz 0
            have f1 := EN.out.fz 1
            have ln : wo.heap.size < U3.heap.size := EN.out.lt
            simp only [List.getElem_toArray, List.getElem_cons_zero, List.getElem_cons_succ]
            go_simp
            refine hK.out _ _ ?_
            clear hK K
            try simp only [Act.put, List.setIfInBounds_toArray, List.set_cons_zero, List.set_cons_succ, List.getElem_toArray, List.getElem_cons_zero, List.getElem_cons_succ]
            clear g0 g1 f0 f1 ln
            refine wpAnyL_done (by kernel_rfl) ?_ _
            have E2 := hik (show ElB ((U3.setCell ⟨wo.heap.size, 0, none⟩ (.int .i64 (El.ml (El.lgp (v u) x u q) (El.sb x (El.nb q))).v.1)).setCell ⟨wo.heap.size, 1, none⟩ (.int .i64 (El.ml (El.lgp (v u) x u q) (El.sb x (El.nb q))).v.2)) wo.heap.size (El.lgp (v u) x u (q + 1)) by rw [El.lgp, if_neg HQU.out]; exact EN.out.set (El.ml (El.lgp (v u) x u q) (El.sb x (El.nb q))))
            have G2 := hik (chg2_at (HH.out.trans KW.out) wo.heap.size (fun l => absurd l (by omega)) 0 1 (.int .i64 (El.ml (El.lgp (v u) x u q) (El.sb x (El.nb q))).v.1) (.int .i64 (El.ml (El.lgp (v u) x u q) (El.sb x (El.nb q))).v.2))
            generalize hE : ((U3.setCell ⟨wo.heap.size, 0, none⟩ (.int .i64 (El.ml (El.lgp (v u) x u q) (El.sb x (El.nb q))).v.1)).setCell ⟨wo.heap.size, 1, none⟩ (.int .i64 (El.ml (El.lgp (v u) x u q) (El.sb x (El.nb q))).v.2)) = W5 at E2 G2 ⊢
            clear hE EN KW SA hHeld x0 x1 y0 y1 HY HH
            go_wp2_with fail
            refine (l01Sub_any (u : Int) (q : Int) _ (by omega) (by omega) (by omega) (by omega)).mono ?_
            rintro e W6 ⟨rfl, rfl⟩
            go_wp2_with fail
            refine (l01Mul_any DD.v.1 (((u : Int) + 2130706433 - (q : Int)) % 2130706433) _ DD.lo1 DD.hi1 (by omega) (by omega)).mono ?_
            rintro e W7 ⟨rfl, rfl⟩
            rw [HD2.out]
            go_wp2
            go_roundw
            case rel => exact ⟨q + 1, by omega, by go_num, rfl, E2, G2⟩
            case measure => simp [intOf]; omega
        · obtain rfl : n = q := by omega
          obtain ⟨DD, hDD⟩ : ∃ DD, DD = El.lgp El.on (El.nb u) u n := ⟨_, rfl⟩
          rw [← hDD]
          have hDb : DD.v.2 = 0 := by rw [hDD]; exact lgd_b u n
          have hDn : DD ≠ El.zr := by rw [hDD]; exact El.lgp_own (by omega) (by omega)
          have HDD := hik hDD
          have HO3 := hik (HO.out.keep HH.out)
          have HX3 := hik (HX.out.keep HH.out)
          have HR3 := hik (HR.out.keep HH.out)
          have HG3 := hik (HG.out.trans HH.out)
          have o0 := HO3.out.c0
          have o1 := HO3.out.c1
          have y0 := HY.out.c0
          have y1 := HY.out.c1
          have HNB := hik hDb
          have HNN := hik hDn
          clear hDD hDb hDn HO HX HR HG
          go_wp2
          have KW := hik ((Chg.refl nob wi).drew1)
          have SA := hik (fun (WW : World) (kW : Chg nob wi WW) => (show (WW.cell? ⟨w.heap.size + 1 + 1, 0, none⟩ = some (.int .i64 (El.sm (fun i => El.ml (El.lgp (v i) x i n) (El.inv (El.lgp El.on (El.nb i) i n))) u).v.1) ∧ WW.cell? ⟨w.heap.size + 1 + 1, 1, none⟩ = some (.int .i64 (El.sm (fun i => El.ml (El.lgp (v i) x i n) (El.inv (El.lgp El.on (El.nb i) i n))) u).v.2) ∧ WW.cell? ⟨wo.heap.size, 0, none⟩ = some (.int .i64 (El.lgp (v u) x u n).v.1) ∧ WW.cell? ⟨wo.heap.size, 1, none⟩ = some (.int .i64 (El.lgp (v u) x u n).v.2)) from ⟨kW.see o0, kW.see o1, kW.see y0, kW.see y1⟩))
          refine wp_regionL (L := 7) (S := fun w' => w'.cell? ⟨w.heap.size + 1 + 1, 0, none⟩ = some (.int .i64 (El.sm (fun i => El.ml (El.lgp (v i) x i n) (El.inv (El.lgp El.on (El.nb i) i n))) u).v.1) ∧ w'.cell? ⟨w.heap.size + 1 + 1, 1, none⟩ = some (.int .i64 (El.sm (fun i => El.ml (El.lgp (v i) x i n) (El.inv (El.lgp El.on (El.nb i) i n))) u).v.2) ∧ w'.cell? ⟨wo.heap.size, 0, none⟩ = some (.int .i64 (El.lgp (v u) x u n).v.1) ∧ w'.cell? ⟨wo.heap.size, 1, none⟩ = some (.int .i64 (El.lgp (v u) x u n).v.2)) (by kernel_rfl) ⟨o0, o1, y0, y1⟩ (fun hHeld => ?_)
          refine wpAnyL_take (i := 0) (v := ?_) rfl (by kernel_rfl) (by kernel_rfl) (by kernel_rfl) (fun _ _ _ h => h) (by rfl) (by kernel_rfl) (by kernel_rfl) (Or.inl ⟨by rfl, ?_⟩) (by assumption) ?_
          rotate_left 1
          · (intro w' hSw; (try dsimp only at hSw); go_simp; try with_reducible rfl)
          try simp only [Act.put, List.setIfInBounds_toArray, List.set_cons_zero, List.set_cons_succ, List.getElem_toArray, List.getElem_cons_zero, List.getElem_cons_succ]
          refine wpAnyL_take (i := 1) (v := ?_) rfl (by kernel_rfl) (by kernel_rfl) (by kernel_rfl) (fun _ _ _ h => h) (by rfl) (by kernel_rfl) (by kernel_rfl) (Or.inl ⟨by rfl, ?_⟩) (by assumption) ?_
          rotate_left 1
          · (intro w' hSw; (try dsimp only at hSw); go_simp; try with_reducible rfl)
          try simp only [Act.put, List.setIfInBounds_toArray, List.set_cons_zero, List.set_cons_succ, List.getElem_toArray, List.getElem_cons_zero, List.getElem_cons_succ]
          refine wpAnyL_take (i := 2) (v := ?_) rfl (by kernel_rfl) (by kernel_rfl) (by kernel_rfl) (fun _ _ _ h => h) (by rfl) (by kernel_rfl) (by kernel_rfl) (Or.inl ⟨by rfl, ?_⟩) (by assumption) ?_
          rotate_left 1
          · (intro w' hSw; (try dsimp only at hSw); go_simp; try with_reducible rfl)
          try simp only [Act.put, List.setIfInBounds_toArray, List.set_cons_zero, List.set_cons_succ, List.getElem_toArray, List.getElem_cons_zero, List.getElem_cons_succ]
          refine wpAnyL_ready (rs := [3]) (by kernel_rfl) (by simp) ?_
          refine AllReadyL.cons rfl (fun K hK => ?_) AllReadyL.nil
          refine stepL_callN 60 #[.tmp 43] #[3] (by rfl) (by rfl) #[.int .i64 DD.v.1] (by simp only [List.map_toArray, List.map_cons, List.map_nil] <;> rfl) (run_go Try.func60 (by kernel_rfl) (by kernel_rfl) _ _) (sInv_c DD _) ?_
          rintro e U1 ⟨he, kk⟩
          refine ⟨_, he, ?_⟩
          replace KW := hik (KW.out.trans kk)
          refine hK.out _ _ (SA.out _ KW.out) (fun hHeld => ?_)
          clear hK K
          try simp only [Act.put, List.setIfInBounds_toArray, List.set_cons_zero, List.set_cons_succ, List.getElem_toArray, List.getElem_cons_zero, List.getElem_cons_succ]
          clear he kk
          refine wpAnyL_ready (rs := [4]) (by kernel_rfl) (by simp) ?_
          refine AllReadyL.cons rfl (fun K hK => ?_) AllReadyL.nil
          refine stepL_callN 57 #[.tmp 44] #[3] (by rfl) (by rfl) #[.int .i64 (Fld.pw DD.v.1 2130706431 % 2130706433)] (by simp only [List.map_toArray, List.map_cons, List.map_nil] <;> rfl) (run_go Try.func57 (by kernel_rfl) (by kernel_rfl) _ _) (sOf_inv DD HNB.out HNN.out _) ?_
          rintro e U2 ⟨he, kk⟩
          refine ⟨_, he, ?_⟩
          replace KW := hik (KW.out.trans kk)
          refine hK.out _ _ (SA.out _ KW.out) (fun hHeld => ?_)
          clear hK K
          try simp only [Act.put, List.setIfInBounds_toArray, List.set_cons_zero, List.set_cons_succ, List.getElem_toArray, List.getElem_cons_zero, List.getElem_cons_succ]
          clear he kk
          refine wpAnyL_ready (rs := [5]) (by kernel_rfl) (by simp) ?_
          refine AllReadyL.cons rfl (fun K hK => ?_) AllReadyL.nil
          refine stepL_callN 48 #[.tmp 42, .tmp 45] #[25, 25] (by rfl) (by rfl) #[.agg #[.int .i64 (El.lgp (v u) x u n).v.1, .int .i64 (El.lgp (v u) x u n).v.2], .agg #[.int .i64 (El.inv DD).v.1, .int .i64 (El.inv DD).v.2]] (by simp only [List.map_toArray, List.map_cons, List.map_nil] <;> rfl) (run_go Try.func48 (by kernel_rfl) (by kernel_rfl) _ _) (sMl_el (El.lgp (v u) x u n) (El.inv DD) _) ?_
          rintro e U3 ⟨he, kk⟩
          refine ⟨_, he, ?_⟩
          replace KW := hik (KW.out.trans kk)
          refine hK.out _ _ (SA.out _ KW.out) (fun hHeld => ?_)
          clear hK K
          try simp only [Act.put, List.setIfInBounds_toArray, List.set_cons_zero, List.set_cons_succ, List.getElem_toArray, List.getElem_cons_zero, List.getElem_cons_succ]
          clear he kk
          refine wpAnyL_ready (rs := [6]) (by kernel_rfl) (by simp) ?_
          refine AllReadyL.cons rfl (fun K hK => ?_) AllReadyL.nil
          refine stepL_callN 47 #[.tmp 41, .tmp 46] #[25, 25] (by rfl) (by rfl) #[.agg #[.int .i64 (El.sm (fun i => El.ml (El.lgp (v i) x i n) (El.inv (El.lgp El.on (El.nb i) i n))) u).v.1, .int .i64 (El.sm (fun i => El.ml (El.lgp (v i) x i n) (El.inv (El.lgp El.on (El.nb i) i n))) u).v.2], .agg #[.int .i64 (El.ml (El.lgp (v u) x u n) (El.inv DD)).v.1, .int .i64 (El.ml (El.lgp (v u) x u n) (El.inv DD)).v.2]] (by simp only [List.map_toArray, List.map_cons, List.map_nil] <;> rfl) (run_go Try.func47 (by kernel_rfl) (by kernel_rfl) _ _) (sAd_el (El.sm (fun i => El.ml (El.lgp (v i) x i n) (El.inv (El.lgp El.on (El.nb i) i n))) u) (El.ml (El.lgp (v u) x u n) (El.inv DD)) _) ?_
          rintro e U4 ⟨he, kk⟩
          refine ⟨_, he, ?_⟩
          replace KW := hik (KW.out.trans kk)
          refine hK.out _ _ (SA.out _ KW.out) (fun hHeld => ?_)
          clear hK K
          try simp only [Act.put, List.setIfInBounds_toArray, List.set_cons_zero, List.set_cons_succ, List.getElem_toArray, List.getElem_cons_zero, List.getElem_cons_succ]
          clear he kk
          refine wpAnyL_ready (rs := [7]) (by kernel_rfl) (by simp) ?_
          refine AllReadyL.last rfl (by kernel_rfl) (fun K hK => ?_)
          have EN := hik (HO3.out.keep KW.out)
          have g0 := EN.out.c0
          have g1 := EN.out.c1
          have f0 := EN.out.fz 0
          have f1 := EN.out.fz 1
          have ln : w.heap.size + 1 + 1 < U4.heap.size := EN.out.lt
          simp only [List.getElem_toArray, List.getElem_cons_zero, List.getElem_cons_succ]
          go_simp
          refine hK.out _ _ ?_
          clear hK K
          try simp only [Act.put, List.setIfInBounds_toArray, List.set_cons_zero, List.set_cons_succ, List.getElem_toArray, List.getElem_cons_zero, List.getElem_cons_succ]
          clear g0 g1 f0 f1 ln
          refine wpAnyL_done (by kernel_rfl) ?_ _
          have E2 := hik (show ElB ((U4.setCell ⟨w.heap.size + 1 + 1, 0, none⟩ (.int .i64 (El.ad (El.sm (fun i => El.ml (El.lgp (v i) x i n) (El.inv (El.lgp El.on (El.nb i) i n))) u) (El.ml (El.lgp (v u) x u n) (El.inv DD))).v.1)).setCell ⟨w.heap.size + 1 + 1, 1, none⟩ (.int .i64 (El.ad (El.sm (fun i => El.ml (El.lgp (v i) x i n) (El.inv (El.lgp El.on (El.nb i) i n))) u) (El.ml (El.lgp (v u) x u n) (El.inv DD))).v.2)) (w.heap.size + 1 + 1) (El.sm (fun i => El.ml (El.lgp (v i) x i n) (El.inv (El.lgp El.on (El.nb i) i n))) (u + 1)) by
            have qq := EN.out.set (El.ad (El.sm (fun i => El.ml (El.lgp (v i) x i n) (El.inv (El.lgp El.on (El.nb i) i n))) u) (El.ml (El.lgp (v u) x u n) (El.inv DD)))
            rw [HDD.out] at qq
            rw [HDD.out]
            exact qq)
          have X5 := hik (ElB.other (HX3.out.keep KW.out) (g := w.heap.size + 1 + 1) (by omega) 0 1 (.int .i64 (El.ad (El.sm (fun i => El.ml (El.lgp (v i) x i n) (El.inv (El.lgp El.on (El.nb i) i n))) u) (El.ml (El.lgp (v u) x u n) (El.inv DD))).v.1) (.int .i64 (El.ad (El.sm (fun i => El.ml (El.lgp (v i) x i n) (El.inv (El.lgp El.on (El.nb i) i n))) u) (El.ml (El.lgp (v u) x u n) (El.inv DD))).v.2))
          have R5 := hik (ElB.other (HR3.out.keep KW.out) (g := w.heap.size + 1 + 1) (by omega) 0 1 (.int .i64 (El.ad (El.sm (fun i => El.ml (El.lgp (v i) x i n) (El.inv (El.lgp El.on (El.nb i) i n))) u) (El.ml (El.lgp (v u) x u n) (El.inv DD))).v.1) (.int .i64 (El.ad (El.sm (fun i => El.ml (El.lgp (v i) x i n) (El.inv (El.lgp El.on (El.nb i) i n))) u) (El.ml (El.lgp (v u) x u n) (El.inv DD))).v.2))
          have G2 := hik (chg2_at (HG3.out.trans KW.out) (w.heap.size + 1 + 1) (fun l => absurd l (by omega)) 0 1 (.int .i64 (El.ad (El.sm (fun i => El.ml (El.lgp (v i) x i n) (El.inv (El.lgp El.on (El.nb i) i n))) u) (El.ml (El.lgp (v u) x u n) (El.inv DD))).v.1) (.int .i64 (El.ad (El.sm (fun i => El.ml (El.lgp (v i) x i n) (El.inv (El.lgp El.on (El.nb i) i n))) u) (El.ml (El.lgp (v u) x u n) (El.inv DD))).v.2))
          generalize hE : ((U4.setCell ⟨w.heap.size + 1 + 1, 0, none⟩ (.int .i64 (El.ad (El.sm (fun i => El.ml (El.lgp (v i) x i n) (El.inv (El.lgp El.on (El.nb i) i n))) u) (El.ml (El.lgp (v u) x u n) (El.inv DD))).v.1)).setCell ⟨w.heap.size + 1 + 1, 1, none⟩ (.int .i64 (El.ad (El.sm (fun i => El.ml (El.lgp (v i) x i n) (El.inv (El.lgp El.on (El.nb i) i n))) u) (El.ml (El.lgp (v u) x u n) (El.inv DD))).v.2)) = W5 at E2 X5 R5 G2 ⊢
          clear hE EN KW SA hHeld o0 o1 y0 y1 HY HH HO3 HX3 HR3 HG3
          go_wp2
          go_roundw
          case rel => exact ⟨u + 1, by omega, by go_num, E2, X5, R5, G2⟩
          case measure => simp [intOf]; omega
    · obtain rfl : n = u := by omega
      have HO2 := hik (show ElB wo (w.heap.size + 1 + 1) (El.lag v x n) from HO.out)
      clear HO
      have e0 := HO2.out.c0
      have e1 := HO2.out.c1
      have c0 : wo.cell? ⟨w.heap.size + 1, 0, none⟩ = some (.int .i64 0) := HR.out.c0
      have c1 : wo.cell? ⟨w.heap.size + 1, 1, none⟩ = some (.int .i64 0) := HR.out.c1
      have f0 := HR.out.fz 0
      have f1 := HR.out.fz 1
      go_wp2
      have u0 := (HR.out.set (El.lag v x n)).c0
      have u1 := (HR.out.set (El.lag v x n)).c1
      exact bodyPost_ret (v := .agg #[.int .i64 (El.lag v x n).v.1, .int .i64 (El.lag v x n).v.2]) (by simp [results, Try.results42, go_sem, u0, u1]) rfl ⟨rfl, chg2_at HG.out (w.heap.size + 1) (fun l => absurd l (by omega)) 0 1 _ _⟩

set_option maxHeartbeats 2000000 in
theorem sLineX_any (c : Option Addr) (n cap : Nat) (f g : Nat → Int) (a b : Int) (w : World) (h : Hid (PairV w c n f g)) (hn : n ≤ 1099511627776) :
    Calls Try.prog 23 #[.slice c n cap, .agg #[.int .i64 a, .int .i64 b]] w fun e w' => e = .returned (.tuple #[.agg #[.int .i64 (lnv f g n a b).v.1, .int .i64 (lnv f g n a b).v.2], .int .i64 (lnc f g n a b)]) ∧ Chg nob w w' := by
  by_cases hl : 4096 < n
  · have hl' : 4096 < (n : Int) := by omega
    have HC := hik (show lnc f g n a b = 2 by unfold lnc; rw [if_pos hl])
    have HV := hik (show lnv f g n a b = El.zr by unfold lnv; rw [HC.out]; rfl)
    rw [HC.out, HV.out]
    go_enter Try.func23, Try.ntmps23
    go_wp2
    exact bodyPost_ret (v := .tuple #[.agg #[.int .i64 0, .int .i64 0], .int .i64 2]) (by simp [results, Try.results23, go_sem]) rfl ⟨rfl, ((Chg.refl nob w).alloc _).alloc _⟩
  have hl' : ¬ 4096 < (n : Int) := by omega
  cases hk1 : okP f g n
  · have HC := hik (show lnc f g n a b = 1 by unfold lnc; rw [if_neg hl, hk1]; rfl)
    have HV := hik (show lnv f g n a b = El.zr by unfold lnv; rw [HC.out]; rfl)
    rw [HC.out, HV.out]
    go_enter Try.func23, Try.ntmps23
    go_wp2_with (go_at_call 40; refine (l02List_any c n cap f g _ (hik (h.out.keep (((Chg.refl nob w).alloc _).alloc _))) hn).mono ?_; rintro e W1 ⟨he, k1⟩; rw [hk1] at he; subst he; have R1 := hik (ElB.keep (by simpa using ElB.zero (w.alloc (.cells #[.int .i64 a, .int .i64 b] 25)) : ElB ((w.alloc (.cells #[.int .i64 a, .int .i64 b] 25)).alloc (.cells #[.int .i64 0, .int .i64 0] 25)) (w.heap.size + 1) El.zr) k1); have E1 := hik (((Elem.new w a b 25).keep ((Chg.refl nob _).alloc (.cells #[.int .i64 0, .int .i64 0] 25))).keep k1); have K1 := hik ((((Chg.refl nob w).alloc _).alloc _).trans k1); clear k1; have c0 : W1.cell? ⟨w.heap.size + 1, 0, none⟩ = some (.int .i64 0) := R1.out.c0; have c1 : W1.cell? ⟨w.heap.size + 1, 1, none⟩ = some (.int .i64 0) := R1.out.c1; have f0 := R1.out.fz 0; have f1 := R1.out.fz 1; have a0 := E1.out.c0; have a1 := E1.out.c1)
    have u0 : ((W1.setCell ⟨w.heap.size + 1, 0, none⟩ (.int .i64 0)).setCell ⟨w.heap.size + 1, 1, none⟩ (.int .i64 0)).cell? ⟨w.heap.size + 1, 0, none⟩ = some (.int .i64 0) := (R1.out.set El.zr).c0
    have u1 : ((W1.setCell ⟨w.heap.size + 1, 0, none⟩ (.int .i64 0)).setCell ⟨w.heap.size + 1, 1, none⟩ (.int .i64 0)).cell? ⟨w.heap.size + 1, 1, none⟩ = some (.int .i64 0) := (R1.out.set El.zr).c1
    exact bodyPost_ret (v := .tuple #[.agg #[.int .i64 0, .int .i64 0], .int .i64 1]) (by simp [results, Try.results23, go_sem, u0, u1]) rfl ⟨rfl, chg2_at K1.out (w.heap.size + 1) (fun l => absurd l (by omega)) 0 1 (.int .i64 0) (.int .i64 0)⟩
  cases hk2 : eok a b
  · have HC := hik (show lnc f g n a b = 1 by unfold lnc; rw [if_neg hl, hk1, hk2]; rfl)
    have HV := hik (show lnv f g n a b = El.zr by unfold lnv; rw [HC.out]; rfl)
    rw [HC.out, HV.out]
    go_enter Try.func23, Try.ntmps23
    go_wp2_with (first | (go_at_call 40; refine (l02List_any c n cap f g _ (hik (h.out.keep (((Chg.refl nob w).alloc _).alloc _))) hn).mono ?_; rintro e W1 ⟨he, k1⟩; rw [hk1] at he; subst he; have R1 := hik (ElB.keep (by simpa using ElB.zero (w.alloc (.cells #[.int .i64 a, .int .i64 b] 25)) : ElB ((w.alloc (.cells #[.int .i64 a, .int .i64 b] 25)).alloc (.cells #[.int .i64 0, .int .i64 0] 25)) (w.heap.size + 1) El.zr) k1); have E1 := hik (((Elem.new w a b 25).keep ((Chg.refl nob _).alloc (.cells #[.int .i64 0, .int .i64 0] 25))).keep k1); have K1 := hik ((((Chg.refl nob w).alloc _).alloc _).trans k1); clear k1; have c0 : W1.cell? ⟨w.heap.size + 1, 0, none⟩ = some (.int .i64 0) := R1.out.c0; have c1 : W1.cell? ⟨w.heap.size + 1, 1, none⟩ = some (.int .i64 0) := R1.out.c1; have f0 := R1.out.fz 0; have f1 := R1.out.fz 1; have a0 := E1.out.c0; have a1 := E1.out.c1) | (go_at_call 32; refine (sExtOK_any a b _).mono ?_; rintro e W2 ⟨he, k2⟩; rw [hk2] at he; subst he; have R2 := hik (R1.out.keep k2); have E2 := hik (E1.out.keep k2); have K2 := hik (K1.out.trans k2); clear k2 c0 c1 f0 f1 a0 a1; have c0 : W2.cell? ⟨w.heap.size + 1, 0, none⟩ = some (.int .i64 0) := R2.out.c0; have c1 : W2.cell? ⟨w.heap.size + 1, 1, none⟩ = some (.int .i64 0) := R2.out.c1; have f0 := R2.out.fz 0; have f1 := R2.out.fz 1; have a0 := E2.out.c0; have a1 := E2.out.c1))
    have u0 : ((W2.setCell ⟨w.heap.size + 1, 0, none⟩ (.int .i64 0)).setCell ⟨w.heap.size + 1, 1, none⟩ (.int .i64 0)).cell? ⟨w.heap.size + 1, 0, none⟩ = some (.int .i64 0) := (R2.out.set El.zr).c0
    have u1 : ((W2.setCell ⟨w.heap.size + 1, 0, none⟩ (.int .i64 0)).setCell ⟨w.heap.size + 1, 1, none⟩ (.int .i64 0)).cell? ⟨w.heap.size + 1, 1, none⟩ = some (.int .i64 0) := (R2.out.set El.zr).c1
    exact bodyPost_ret (v := .tuple #[.agg #[.int .i64 0, .int .i64 0], .int .i64 1]) (by simp [results, Try.results23, go_sem, u0, u1]) rfl ⟨rfl, chg2_at K2.out (w.heap.size + 1) (fun l => absurd l (by omega)) 0 1 (.int .i64 0) (.int .i64 0)⟩
  by_cases hs1 : n < 1
  · have HC := hik (show lnc f g n a b = 8 by unfold lnc; rw [if_neg hl, hk1, hk2]; simp; omega)
    have HIN := hik (show inW (n : Int) 1 8 = false from decide_eq_false (by omega))
    have HV := hik (show lnv f g n a b = El.zr by unfold lnv; rw [HC.out]; rfl)
    rw [HC.out, HV.out]
    go_enter Try.func23, Try.ntmps23
    go_wp2_with (first | (go_at_call 40; refine (l02List_any c n cap f g _ (hik (h.out.keep (((Chg.refl nob w).alloc _).alloc _))) hn).mono ?_; rintro e W1 ⟨he, k1⟩; rw [hk1] at he; subst he; have R1 := hik (ElB.keep (by simpa using ElB.zero (w.alloc (.cells #[.int .i64 a, .int .i64 b] 25)) : ElB ((w.alloc (.cells #[.int .i64 a, .int .i64 b] 25)).alloc (.cells #[.int .i64 0, .int .i64 0] 25)) (w.heap.size + 1) El.zr) k1); have E1 := hik (((Elem.new w a b 25).keep ((Chg.refl nob _).alloc (.cells #[.int .i64 0, .int .i64 0] 25))).keep k1); have K1 := hik ((((Chg.refl nob w).alloc _).alloc _).trans k1); clear k1; have c0 : W1.cell? ⟨w.heap.size + 1, 0, none⟩ = some (.int .i64 0) := R1.out.c0; have c1 : W1.cell? ⟨w.heap.size + 1, 1, none⟩ = some (.int .i64 0) := R1.out.c1; have f0 := R1.out.fz 0; have f1 := R1.out.fz 1; have a0 := E1.out.c0; have a1 := E1.out.c1) | (go_at_call 32; refine (sExtOK_any a b _).mono ?_; rintro e W2 ⟨he, k2⟩; rw [hk2] at he; subst he; have R2 := hik (R1.out.keep k2); have E2 := hik (E1.out.keep k2); have K2 := hik (K1.out.trans k2); clear k2 c0 c1 f0 f1 a0 a1; have c0 : W2.cell? ⟨w.heap.size + 1, 0, none⟩ = some (.int .i64 0) := R2.out.c0; have c1 : W2.cell? ⟨w.heap.size + 1, 1, none⟩ = some (.int .i64 0) := R2.out.c1; have f0 := R2.out.fz 0; have f1 := R2.out.fz 1; have a0 := E2.out.c0; have a1 := E2.out.c1) | (go_at_call 41; refine (l01In_any (n : Int) 1 8 _).mono ?_; rintro e WI ⟨he, hwi⟩; have hwj := hwi.symm; clear hwi; subst hwj; rw [HIN.out] at he; subst he))
    have u0 : ((W2.setCell ⟨w.heap.size + 1, 0, none⟩ (.int .i64 0)).setCell ⟨w.heap.size + 1, 1, none⟩ (.int .i64 0)).cell? ⟨w.heap.size + 1, 0, none⟩ = some (.int .i64 0) := (R2.out.set El.zr).c0
    have u1 : ((W2.setCell ⟨w.heap.size + 1, 0, none⟩ (.int .i64 0)).setCell ⟨w.heap.size + 1, 1, none⟩ (.int .i64 0)).cell? ⟨w.heap.size + 1, 1, none⟩ = some (.int .i64 0) := (R2.out.set El.zr).c1
    exact bodyPost_ret (v := .tuple #[.agg #[.int .i64 0, .int .i64 0], .int .i64 8]) (by simp [results, Try.results23, go_sem, u0, u1]) rfl ⟨rfl, chg2_at K2.out (w.heap.size + 1) (fun l => absurd l (by omega)) 0 1 (.int .i64 0) (.int .i64 0)⟩
  by_cases hs8 : 8 < n
  · have HC := hik (show lnc f g n a b = 8 by unfold lnc; rw [if_neg hl, hk1, hk2]; simp; omega)
    have HIN := hik (show inW (n : Int) 1 8 = false from decide_eq_false (by omega))
    have HV := hik (show lnv f g n a b = El.zr by unfold lnv; rw [HC.out]; rfl)
    rw [HC.out, HV.out]
    go_enter Try.func23, Try.ntmps23
    go_wp2_with (first | (go_at_call 40; refine (l02List_any c n cap f g _ (hik (h.out.keep (((Chg.refl nob w).alloc _).alloc _))) hn).mono ?_; rintro e W1 ⟨he, k1⟩; rw [hk1] at he; subst he; have R1 := hik (ElB.keep (by simpa using ElB.zero (w.alloc (.cells #[.int .i64 a, .int .i64 b] 25)) : ElB ((w.alloc (.cells #[.int .i64 a, .int .i64 b] 25)).alloc (.cells #[.int .i64 0, .int .i64 0] 25)) (w.heap.size + 1) El.zr) k1); have E1 := hik (((Elem.new w a b 25).keep ((Chg.refl nob _).alloc (.cells #[.int .i64 0, .int .i64 0] 25))).keep k1); have K1 := hik ((((Chg.refl nob w).alloc _).alloc _).trans k1); clear k1; have c0 : W1.cell? ⟨w.heap.size + 1, 0, none⟩ = some (.int .i64 0) := R1.out.c0; have c1 : W1.cell? ⟨w.heap.size + 1, 1, none⟩ = some (.int .i64 0) := R1.out.c1; have f0 := R1.out.fz 0; have f1 := R1.out.fz 1; have a0 := E1.out.c0; have a1 := E1.out.c1) | (go_at_call 32; refine (sExtOK_any a b _).mono ?_; rintro e W2 ⟨he, k2⟩; rw [hk2] at he; subst he; have R2 := hik (R1.out.keep k2); have E2 := hik (E1.out.keep k2); have K2 := hik (K1.out.trans k2); clear k2 c0 c1 f0 f1 a0 a1; have c0 : W2.cell? ⟨w.heap.size + 1, 0, none⟩ = some (.int .i64 0) := R2.out.c0; have c1 : W2.cell? ⟨w.heap.size + 1, 1, none⟩ = some (.int .i64 0) := R2.out.c1; have f0 := R2.out.fz 0; have f1 := R2.out.fz 1; have a0 := E2.out.c0; have a1 := E2.out.c1) | (go_at_call 41; refine (l01In_any (n : Int) 1 8 _).mono ?_; rintro e WI ⟨he, hwi⟩; have hwj := hwi.symm; clear hwi; subst hwj; rw [HIN.out] at he; subst he))
    have u0 : ((W2.setCell ⟨w.heap.size + 1, 0, none⟩ (.int .i64 0)).setCell ⟨w.heap.size + 1, 1, none⟩ (.int .i64 0)).cell? ⟨w.heap.size + 1, 0, none⟩ = some (.int .i64 0) := (R2.out.set El.zr).c0
    have u1 : ((W2.setCell ⟨w.heap.size + 1, 0, none⟩ (.int .i64 0)).setCell ⟨w.heap.size + 1, 1, none⟩ (.int .i64 0)).cell? ⟨w.heap.size + 1, 1, none⟩ = some (.int .i64 0) := (R2.out.set El.zr).c1
    exact bodyPost_ret (v := .tuple #[.agg #[.int .i64 0, .int .i64 0], .int .i64 8]) (by simp [results, Try.results23, go_sem, u0, u1]) rfl ⟨rfl, chg2_at K2.out (w.heap.size + 1) (fun l => absurd l (by omega)) 0 1 (.int .i64 0) (.int .i64 0)⟩
  have HC := hik (show lnc f g n a b = 0 by unfold lnc; rw [if_neg hl, hk1, hk2]; simp; omega)
  have h8 : n ≤ 8 := by omega
  have HIN := hik (show inW (n : Int) 1 8 = true from decide_eq_true ⟨by omega, by omega⟩)
  obtain ⟨r, hra, hrb, hre⟩ : ∃ r : El, a = r.v.1 ∧ b = r.v.2 ∧ elP a b = r := ⟨elP a b, by rw [elP_v hk2], by rw [elP_v hk2], rfl⟩
  have HV := hik (show lnv f g n a b = El.lag (elF f g) r n by unfold lnv; rw [HC.out, if_pos rfl, hre])
  rw [HC.out, HV.out]
  have HP := hik (PairE.of h.out hk1)
  clear HC HV
  subst hra hrb
  clear hre
  go_enter Try.func23, Try.ntmps23
  go_wp2_with (first
    | (go_at_call 40; refine (l02List_any c n cap f g _ (hik (h.out.keep (((Chg.refl nob w).alloc _).alloc _))) hn).mono ?_; rintro e W1 ⟨he, k1⟩; rw [hk1] at he; subst he; have R1 := hik (ElB.keep (by simpa using ElB.zero (w.alloc (.cells #[.int .i64 r.v.1, .int .i64 r.v.2] 25)) : ElB ((w.alloc (.cells #[.int .i64 r.v.1, .int .i64 r.v.2] 25)).alloc (.cells #[.int .i64 0, .int .i64 0] 25)) (w.heap.size + 1) El.zr) k1); have E1 := hik (((Elem.new w r.v.1 r.v.2 25).keep ((Chg.refl nob _).alloc (.cells #[.int .i64 0, .int .i64 0] 25))).keep k1); have K1 := hik ((((Chg.refl nob w).alloc _).alloc _).trans k1); clear k1; have c0 : W1.cell? ⟨w.heap.size + 1, 0, none⟩ = some (.int .i64 0) := R1.out.c0; have c1 : W1.cell? ⟨w.heap.size + 1, 1, none⟩ = some (.int .i64 0) := R1.out.c1; have f0 := R1.out.fz 0; have f1 := R1.out.fz 1; have a0 := E1.out.c0; have a1 := E1.out.c1)
    | (go_at_call 32; refine (sExtOK_any r.v.1 r.v.2 _).mono ?_; rintro e W2 ⟨he, k2⟩; rw [hk2] at he; subst he; have R2 := hik (R1.out.keep k2); have E2 := hik (E1.out.keep k2); have K2 := hik (K1.out.trans k2); clear k2 c0 c1 f0 f1 a0 a1; have c0 : W2.cell? ⟨w.heap.size + 1, 0, none⟩ = some (.int .i64 0) := R2.out.c0; have c1 : W2.cell? ⟨w.heap.size + 1, 1, none⟩ = some (.int .i64 0) := R2.out.c1; have f0 := R2.out.fz 0; have f1 := R2.out.fz 1; have a0 := E2.out.c0; have a1 := E2.out.c1)
    | (go_at_call 41; refine (l01In_any (n : Int) 1 8 _).mono ?_; rintro e WI ⟨he, hwi⟩; have hwj := hwi.symm; clear hwi; subst hwj; rw [HIN.out] at he; subst he)
    | (go_at_call 42; refine (sLine_any c n cap (elF f g) r _ (hik (HP.out.keep K2.out)) h8).mono ?_; rintro e W3 ⟨rfl, k3⟩; have R3 := hik (R2.out.keep k3); have K3 := hik (K2.out.trans k3); clear k3 c0 c1 f0 f1 a0 a1; have c0 : W3.cell? ⟨w.heap.size + 1, 0, none⟩ = some (.int .i64 0) := R3.out.c0; have c1 : W3.cell? ⟨w.heap.size + 1, 1, none⟩ = some (.int .i64 0) := R3.out.c1; have f0 := R3.out.fz 0; have f1 := R3.out.fz 1))
  have u0 : ((W3.setCell ⟨w.heap.size + 1, 0, none⟩ (.int .i64 (El.lag (elF f g) r n).v.1)).setCell ⟨w.heap.size + 1, 1, none⟩ (.int .i64 (El.lag (elF f g) r n).v.2)).cell? ⟨w.heap.size + 1, 0, none⟩ = some (.int .i64 (El.lag (elF f g) r n).v.1) := (R3.out.set (El.lag (elF f g) r n)).c0
  have u1 : ((W3.setCell ⟨w.heap.size + 1, 0, none⟩ (.int .i64 (El.lag (elF f g) r n).v.1)).setCell ⟨w.heap.size + 1, 1, none⟩ (.int .i64 (El.lag (elF f g) r n).v.2)).cell? ⟨w.heap.size + 1, 1, none⟩ = some (.int .i64 (El.lag (elF f g) r n).v.2) := (R3.out.set (El.lag (elF f g) r n)).c1
  exact bodyPost_ret (v := .tuple #[.agg #[.int .i64 (El.lag (elF f g) r n).v.1, .int .i64 (El.lag (elF f g) r n).v.2], .int .i64 0]) (by simp [results, Try.results23, go_sem, u0, u1]) rfl ⟨rfl, chg2_at K3.out (w.heap.size + 1) (fun l => absurd l (by omega)) 0 1 (.int .i64 (El.lag (elF f g) r n).v.1) (.int .i64 (El.lag (elF f g) r n).v.2)⟩
end Go.Proofs.Ytabioonijjibnao
