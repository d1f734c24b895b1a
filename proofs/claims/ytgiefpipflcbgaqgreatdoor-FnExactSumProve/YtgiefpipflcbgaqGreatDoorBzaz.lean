/- Several texts in one: What a sponge and a script draw, by the program: contracts. Conditions: a state of 32 bytes, numbers of a right source, rows that can be read; the tables hold the shifts and the rounds' constants. · What a script draws, who draws, and what is left behind draws, by the program: contracts. Conditions: a right source, rows that can be read; the tables hold the shifts and the rounds' constants. · What the program's SumOf and RoundOf answer: contracts. Conditions: lists of lists that can be read, of at most 2 to the 40. -/
import Derived.Test.YtgiefpipflcbgaqGreatDoorBzat
import Derived.Test.YtgiefpipflcbgaqGreatDoorBzan
import Derived.Test.YtgiefpipflcbgaqGreatDoorBzao
import Derived.BigRegion
import Derived.Deep.RegionHeld3
import Derived.Test.YtgiefpipflcbgaqGreatDoorTbsX
namespace Go.Proofs.YtgiefpipflcbgaqGreatDoor
open Go.ChangeShapes Go.WideShapes Go.ChangeAt Go.RowKit
set_option linter.unusedVariables false
set_option maxRecDepth 100000
set_option linter.unusedSimpArgs false

theorem zs_cut (s : ByteArray) (a b i : Nat) (hb : b ≤ s.size) (hi : a + i < b) : zs (s.extract a b) i = zs s (a + i) := by
  have h1 : i < (s.extract a b).size := by simp; omega
  rw [← zs_at _ _ h1, ← zs_at s (a + i) (by omega)]
  congr 1
  simp [ByteArray.getElem_extract]
theorem acc_step (a z : Int) : (a % 2130706433 * 256 + z) % 2130706433 = (a * 256 + z) % 2130706433 := by
  rw [Int.add_emod, Int.mul_emod, Int.emod_emod, ← Int.mul_emod, ← Int.add_emod]
/-- Eight bytes by the model's way are those of the program's. -/
theorem fl8_w8 (h : ByteArray) (a : Nat) (hs : a + 8 ≤ h.size) : fl8 (h.extract a (a + 8)) 8 = w8 (zs h) a % 2130706433 := by
  simp only [fl8]
  rw [zs_cut h a (a + 8) 0 hs (by omega), zs_cut h a (a + 8) 1 hs (by omega), zs_cut h a (a + 8) 2 hs (by omega), zs_cut h a (a + 8) 3 hs (by omega), zs_cut h a (a + 8) 4 hs (by omega), zs_cut h a (a + 8) 5 hs (by omega), zs_cut h a (a + 8) 6 hs (by omega), zs_cut h a (a + 8) 7 hs (by omega)]
  simp only [acc_step, w8, w4, Nat.add_zero, Nat.add_assoc]
  congr 1
  have e : ∀ x0 x1 x2 x3 x4 x5 x6 x7 : Int, ((((((((0 * 256 + x0) * 256 + x1) * 256 + x2) * 256 + x3) * 256 + x4) * 256 + x5) * 256 + x6) * 256 + x7) = (x0 * 16777216 + x1 * 65536 + x2 * 256 + x3) * 4294967296 + (x4 * 16777216 + x5 * 65536 + x6 * 256 + x7) := fun x0 x1 x2 x3 x4 x5 x6 x7 => by omega
  exact e _ _ _ _ _ _ _ _
theorem drA_w8 (st : ByteArray) (ct : Int) : drA st ct = w8 (zs (drH st ct)) 0 % 2130706433 := fl8_w8 (drH st ct) 0 (by unfold drH; rw [hsh_size]; omega)
theorem drB_w8 (st : ByteArray) (ct : Int) : drB st ct = w8 (zs (drH st ct)) 8 % 2130706433 := fl8_w8 (drH st ct) 8 (by unfold drH; rw [hsh_size]; omega)

/-- A drawn element in its block, and what is kept beside it. -/
def PtE (w : World) (st : ByteArray) (ct x y : Int) (v : Value) (W : World) : Prop := ∃ X : Nat, v = .pointer (some ⟨X, 0, none⟩) ∧ W.rowIs X 45 2 (pi2 x y) ∧ w.heap.size + 2 ≤ X ∧ W.rowIs w.heap.size 160 2 (pv2 (.string st) (.int .i64 ct)) ∧ W.rowIs (w.heap.size + 1) 45 2 (pi2 0 0) ∧ Chg nob w W
/-- The hash's bytes, and what is kept beside them. -/
def HshW (w : World) (h st : ByteArray) (ct : Int) (v : Value) (W : World) : Prop := HshV w h v W ∧ W.rowIs w.heap.size 160 2 (pv2 (.string st) (.int .i64 ct)) ∧ W.rowIs (w.heap.size + 1) 45 2 (pi2 0 0)

set_option maxHeartbeats 2000000 in
theorem spongeDraw_any (st : ByteArray) (ct : Int) (w : World) (htb : Hid (Tabs w)) (hst : st.size = 32) (c0 : 0 ≤ ct) (c1 : ct ≤ 1000000) :
    Calls Tryz.prog 148 #[.agg #[.string st, .int .i64 ct]] w fun e w' => e = .returned (.tuple #[.agg #[.int .i64 (drA st ct), .int .i64 (drB st ct)], .iface 160 (.agg #[.string st, .int .i64 (ct + 1)])]) ∧ Chg nob w w' := by
  have hst' : (st.size : Int) = 32 := by omega
  have hb4 : (be4 ct).size = 4 := be4_size _
  have hsz : (drT st ct).size ≤ 65536 := by rw [drT_size]; omega
  have HSZ := hik hsz
  clear hsz
  obtain ⟨h, hh⟩ : ∃ h, h = drH st ct := ⟨_, rfl⟩
  have hs32 : h.size = 32 := by rw [hh]; exact hsh_size _
  have EA := hik (show drA st ct = w8 (zs h) 0 % 2130706433 by rw [hh]; exact drA_w8 st ct)
  have EB := hik (show drB st ct = w8 (zs h) 8 % 2130706433 by rw [hh]; exact drB_w8 st ct)
  have HH := hik hh
  have HB := hik (zs_B h)
  clear hh
  obtain ⟨x, hx⟩ : ∃ x, x = w8 (zs h) 0 % 2130706433 := ⟨_, rfl⟩
  obtain ⟨y, hy⟩ : ∃ y, y = w8 (zs h) 8 % 2130706433 := ⟨_, rfl⟩
  rw [← hx] at EA
  rw [← hy] at EB
  have HX := hik hx
  have HY := hik hy
  clear hx hy
  go_enter Tryz.func148, Tryz.ntmps148
  go_upto_region 1 with fail
  go_cut [4] from 6 (fun v W => HshW w h st ct v W)
  case first =>
    refine wp_region_held_drew (S := fun w' => w'.cell? ⟨w.heap.size, 0, none⟩ = some (.string st) ∧ w'.cell? ⟨w.heap.size, 1, none⟩ = some (.int .i64 ct)) (by kernel_rfl) ⟨by go_simp, by go_simp⟩ (fun hHeld => ?_)
    refine wpAnyH_take (i := 0) (v := ?_) rfl (by kernel_rfl) (by kernel_rfl) (by kernel_rfl) (fun _ _ _ h => h) (Or.inl ⟨by rfl, ?_⟩) (by assumption) ?_
    rotate_left 1
    · (intro w' hSw; (try dsimp only at hSw); go_simp; try with_reducible rfl)
    try simp only [Act.put, List.setIfInBounds_toArray, List.set_cons_zero, List.set_cons_succ, List.getElem_toArray, List.getElem_cons_zero, List.getElem_cons_succ]
    refine wpAnyH_take (i := 1) (v := ?_) rfl (by kernel_rfl) (by kernel_rfl) (by kernel_rfl) (fun _ _ _ h => h) (Or.inl ⟨by rfl, ?_⟩) (by assumption) ?_
    rotate_left 1
    · (intro w' hSw; (try dsimp only at hSw); go_simp; try with_reducible rfl)
    try simp only [Act.put, List.setIfInBounds_toArray, List.set_cons_zero, List.set_cons_succ, List.getElem_toArray, List.getElem_cons_zero, List.getElem_cons_succ]
    refine wpAnyH_take (i := 2) (v := ?_) rfl (by kernel_rfl) (by kernel_rfl) (by kernel_rfl) (fun _ _ _ h => h) (Or.inl ⟨by rfl, ?_⟩) (by assumption) ?_
    rotate_left 1
    · (intro w' hSw; (try dsimp only at hSw); go_simp; try with_reducible rfl)
    try simp only [Act.put, List.setIfInBounds_toArray, List.set_cons_zero, List.set_cons_succ, List.getElem_toArray, List.getElem_cons_zero, List.getElem_cons_succ]
    refine wpAnyH_take (i := 3) (v := ?_) rfl (by kernel_rfl) (by kernel_rfl) (by kernel_rfl) (fun _ _ _ h => h) (Or.inl ⟨by rfl, ?_⟩) (by assumption) ?_
    rotate_left 1
    · (intro w' hSw; (try dsimp only at hSw); go_simp; try with_reducible rfl)
    try simp only [Act.put, List.setIfInBounds_toArray, List.set_cons_zero, List.set_cons_succ, List.getElem_toArray, List.getElem_cons_zero, List.getElem_cons_succ]
    refine wpAnyH_take (i := 4) (v := ?_) rfl (by kernel_rfl) (by kernel_rfl) (by kernel_rfl) (fun _ _ _ h => h) (Or.inl ⟨by rfl, ?_⟩) (by assumption) ?_
    rotate_left 1
    · (intro w' hSw; (try dsimp only at hSw); go_simp; try with_reducible rfl)
    try simp only [Act.put, List.setIfInBounds_toArray, List.set_cons_zero, List.set_cons_succ, List.getElem_toArray, List.getElem_cons_zero, List.getElem_cons_succ]
    refine wpAnyH_ready (rs := [5]) (by kernel_rfl) (by simp) ?_
    refine AllReadyH.cons rfl (fun K hK => ?_) AllReadyH.nil
    refine stepL_callN 120 #[.tmp 10] #[3] (by rfl) (by rfl) #[.int .i64 ct] (by simp only [List.map_toArray, List.map_cons, List.map_nil]; rfl) (run_go Tryz.func120 (by kernel_rfl) (by kernel_rfl) _ _) (wordText_any ct _ c0 (by omega)) ?_
    rintro e W1 ⟨he, k1⟩
    refine ⟨_, he, ?_⟩
    refine hK.out _ _ ⟨k1.see hHeld.1, k1.see hHeld.2⟩ (fun hHeld => ?_)
    clear hK K
    try simp only [Act.put, List.setIfInBounds_toArray, List.set_cons_zero, List.set_cons_succ, List.getElem_toArray, List.getElem_cons_zero, List.getElem_cons_succ]
    have K1 := hik ((Chg.refl nob ((w.alloc (.cells #[.string st, .int .i64 ct] 160)).alloc (.cells #[.int .i64 0, .int .i64 0] 45))).drew1.trans k1)
    clear he k1
    refine wpAnyH_take (i := 6) (v := ?_) rfl (by kernel_rfl) (by kernel_rfl) (by kernel_rfl) (fun _ _ _ h => h) (Or.inl ⟨by rfl, ?_⟩) (by assumption) ?_
    rotate_left 1
    · (intro w' hSw; (try dsimp only at hSw); go_simp; try with_reducible rfl)
    try simp only [Act.put, List.setIfInBounds_toArray, List.set_cons_zero, List.set_cons_succ, List.getElem_toArray, List.getElem_cons_zero, List.getElem_cons_succ]
    refine wpAnyH_ready (rs := [7]) (by kernel_rfl) (by simp) ?_
    refine AllReadyH.cons rfl (fun K hK => ?_) AllReadyH.nil
    refine stepL_callN 149 #[.tmp 12] #[9] (by rfl) (by rfl) #[.string (drT st ct)] (by simp only [List.map_toArray, List.map_cons, List.map_nil]; rfl) (run_go Tryz.func149 (by kernel_rfl) (by kernel_rfl) _ _) (hashOf_any (drT st ct) _ (hik (htb.out.keep ((((Chg.refl nob w).alloc _).alloc _).trans K1.out))) HSZ.out) ?_
    rintro e W2 ⟨he, k2⟩
    have he : e = .returned (.string h) := by rw [HH.out]; exact he
    refine ⟨_, he, ?_⟩
    refine hK.out _ _ ⟨k2.see hHeld.1, k2.see hHeld.2⟩ (fun hHeld => ?_)
    clear hK K
    try simp only [Act.put, List.setIfInBounds_toArray, List.set_cons_zero, List.set_cons_succ, List.getElem_toArray, List.getElem_cons_zero, List.getElem_cons_succ]
    have K2 := hik (K1.out.trans k2)
    clear he k2
    obtain ⟨W0, cap0, hcv, HB0, HG0, HC0⟩ := conv_text h W2 (by omega)
    refine wpAnyH_ready (rs := [8]) (by kernel_rfl) (by simp) ?_
    refine AllReadyH.cons rfl (fun K hK => ?_) AllReadyH.nil
    refine stepL_conv 9 106 (.tmp 13) (by rfl) (by rfl) (.string h) _ _ (by rfl) hcv ?_
    refine hK.out _ _ ⟨HG0.out.see hHeld.1, HG0.out.see hHeld.2⟩ (fun hHeld => ?_)
    clear hK K
    try simp only [Act.put, List.setIfInBounds_toArray, List.set_cons_zero, List.set_cons_succ, List.getElem_toArray, List.getElem_cons_zero, List.getElem_cons_succ]
    clear hcv
    refine wpAnyH_take (i := 9) (v := ?_) rfl (by kernel_rfl) (by kernel_rfl) (by kernel_rfl) (fun _ _ _ h => h) (Or.inl ⟨by rfl, ?_⟩) (by assumption) ?_
    rotate_left 1
    · (intro w' hSw; (try dsimp only at hSw); go_simp; try with_reducible rfl)
    try simp only [Act.put, List.setIfInBounds_toArray, List.set_cons_zero, List.set_cons_succ, List.getElem_toArray, List.getElem_cons_zero, List.getElem_cons_succ]
    have KK := hik (K2.out.trans HG0.out)
    refine wpAnyH_done (by kernel_rfl) ?_ _
    go_wp2_with fail
    go_meet
    case rel => exact ⟨⟨W2.heap.size, cap0, rfl, by have := HB0.out.le; omega, HC0, fun j hj => HB0.out.at_ j (by omega), (((Chg.refl nob w).alloc _).alloc _).trans KK.out⟩, rowIs_keep (World.rowIs.alloc (row2_new w _ _ _) _) KK.out, by rw [show w.heap.size + 1 = (w.alloc (.cells #[.string st, .int .i64 ct] 160)).heap.size by simp]; exact rowIs_keep (row2_new (w.alloc (.cells #[.string st, .int .i64 ct] 160)) _ _ _) KK.out⟩
  case rest =>
    obtain ⟨⟨xb, cap0, rfl, hle, hcm, hcell, hg⟩, r0, r1⟩ := hcut
    have G := hik hg
    have R0 := hik r0
    have R1 := hik r1
    have HL := hik hcell
    have hf1 : (8 : Int) ≤ (cap0 : Int) := by omega
    have hf2 : ¬ (cap0 : Int) - 8 = 0 := by omega
    have hf3 : ¬ cap0 - 8 = 0 := by omega
    have hf4 : ¬ cap0 = 8 := by omega
    have HCM := hik hcm
    have HLE := hik hle
    have L1 := hik R1.out.lt
    clear hcell hg r0 r1 hcm hle
    go_upto_region 2 with fail
    go_cut [5] from 6 (fun v W => PtE w st ct x y v W)
    case first =>
      refine wp_region_held_drew (S := fun _ => True) (by kernel_rfl) True.intro (fun hHeld => ?_)
      have KW := hik ((Chg.refl nob wc).drew1)
      refine wpAnyH_take (i := 0) (v := ?_) rfl (by kernel_rfl) (by kernel_rfl) (by kernel_rfl) (fun _ _ _ h => h) (Or.inl ⟨by rfl, ?_⟩) (by assumption) ?_
      rotate_left 1
      · (intro w' hSw; (try dsimp only at hSw); go_simp; try with_reducible rfl)
      try simp only [Act.put, List.setIfInBounds_toArray, List.set_cons_zero, List.set_cons_succ, List.getElem_toArray, List.getElem_cons_zero, List.getElem_cons_succ]
      refine wpAnyH_take (i := 2) (v := ?_) rfl (by kernel_rfl) (by kernel_rfl) (by kernel_rfl) (fun _ _ _ h => h) (Or.inl ⟨by rfl, ?_⟩) (by assumption) ?_
      rotate_left 1
      · (intro w' hSw; (try dsimp only at hSw); go_simp; try with_reducible rfl)
      try simp only [Act.put, List.setIfInBounds_toArray, List.set_cons_zero, List.set_cons_succ, List.getElem_toArray, List.getElem_cons_zero, List.getElem_cons_succ]
      refine wpAnyH_take (i := 3) (v := ?_) rfl (by kernel_rfl) (by kernel_rfl) (by kernel_rfl) (fun _ _ _ h => h) (Or.inl ⟨by rfl, ?_⟩) (by assumption) ?_
      rotate_left 1
      · (intro w' hSw; (try dsimp only at hSw); go_simp; try with_reducible rfl)
      try simp only [Act.put, List.setIfInBounds_toArray, List.set_cons_zero, List.set_cons_succ, List.getElem_toArray, List.getElem_cons_zero, List.getElem_cons_succ]
      refine wpAnyH_ready (rs := [1, 6]) (by kernel_rfl) (by simp) ?_
      refine AllReadyH.cons rfl (fun K hK => ?_) ?_
      · refine stepL_callN 150 #[.tmp 15] #[106] (by rfl) (by rfl) #[.slice (some ⟨xb, 0, none⟩) 32 cap0] (by simp only [List.map_toArray, List.map_cons, List.map_nil]; rfl) (run_go Tryz.func150 (by kernel_rfl) (by kernel_rfl) _ _) (longWord_any xb 0 32 cap0 0 (zs h) _ (hik (fun j hj => KW.out.see (HL.out (0 + j) (by omega)))) HB (by omega) (by have := HLE.out; omega) (by omega) (by have := HCM.out; omega)) ?_
        rintro e W1 ⟨he, kk⟩
        have he : e = .returned (.int .i64 x) := by rw [HX.out]; exact he
        refine ⟨_, he, ?_⟩
        refine hK.out _ _ True.intro (fun hHeld => ?_)
        clear hK K
        try simp only [Act.put, List.setIfInBounds_toArray, List.set_cons_zero, List.set_cons_succ, List.getElem_toArray, List.getElem_cons_zero, List.getElem_cons_succ]
        replace KW := hik (KW.out.trans kk)
        clear he kk
        refine wpAnyH_ready (rs := [4, 6]) (by kernel_rfl) (by simp) ?_
        refine AllReadyH.cons rfl (fun K hK => ?_) ?_
        · refine stepL_callN 150 #[.tmp 18] #[106] (by rfl) (by rfl) #[.slice (some ⟨xb, 8, none⟩) (32 - 8) (cap0 - 8)] (by simp only [List.map_toArray, List.map_cons, List.map_nil]; rfl) (run_go Tryz.func150 (by kernel_rfl) (by kernel_rfl) _ _) (longWord_any xb 8 (32 - 8) (cap0 - 8) 8 (zs h) _ (hik (fun j hj => KW.out.see (HL.out (8 + j) (by omega)))) HB (by omega) (by have := HLE.out; omega) (by omega) (by have := HCM.out; omega)) ?_
          rintro e W2 ⟨he, kk⟩
          have he : e = .returned (.int .i64 y) := by rw [HY.out]; exact he
          refine ⟨_, he, ?_⟩
          refine hK.out _ _ True.intro (fun hHeld => ?_)
          clear hK K
          try simp only [Act.put, List.setIfInBounds_toArray, List.set_cons_zero, List.set_cons_succ, List.getElem_toArray, List.getElem_cons_zero, List.getElem_cons_succ]
          replace KW := hik (KW.out.trans kk)
          clear he kk
          refine wpAnyH_take (i := 5) (v := ?_) rfl (by kernel_rfl) (by kernel_rfl) (by kernel_rfl) (fun _ _ _ h => h) (Or.inl ⟨by rfl, ?_⟩) (by assumption) ?_
          rotate_left 1
          · (intro w' hSw; (try dsimp only at hSw); go_simp; try with_reducible rfl)
          try simp only [Act.put, List.setIfInBounds_toArray, List.set_cons_zero, List.set_cons_succ, List.getElem_toArray, List.getElem_cons_zero, List.getElem_cons_succ]
          refine wpAnyH_ready (rs := [6]) (by kernel_rfl) (by simp) ?_
          refine AllReadyH.cons rfl (fun K hK => ?_) AllReadyH.nil
          have KW0 := hik KW.out
          simp only [List.getElem_toArray, List.getElem_cons_zero, List.getElem_cons_succ]
          go_simp
          refine hK.out _ _ True.intro (fun hHeld => ?_)
          clear hK K
          try simp only [Act.put, List.setIfInBounds_toArray, List.set_cons_zero, List.set_cons_succ, List.getElem_toArray, List.getElem_cons_zero, List.getElem_cons_succ]
          have XR : Hid ((W2.alloc (.cells #[.int .i64 0, .int .i64 0] 45)).rowIs W2.heap.size 45 2 (pi2 0 0)) := hik (row2_new W2 (.int .i64 0) (.int .i64 0) 45)
          have XL := hik (show w.heap.size + 2 ≤ W2.heap.size by have := L1.out; have := KW.out.size; first | omega | (simp at this; omega))
          replace KW := hik (KW.out.alloc (.cells #[.int .i64 0, .int .i64 0] 45))
          refine wpAnyH_ready (rs := [7]) (by kernel_rfl) (by simp) ?_
          refine AllReadyH.cons rfl (fun K hK => ?_) AllReadyH.nil
          have o0 := XR.out.cell (i := 0) (by omega)
          have o1 := XR.out.cell (i := 1) (by omega)
          have v0 := XR.out.frozen 0
          have v1 := XR.out.frozen 1
          simp only [List.getElem_toArray, List.getElem_cons_zero, List.getElem_cons_succ]
          go_simp
          refine hK.out _ _ True.intro (fun hHeld => ?_)
          clear hK K
          try simp only [Act.put, List.setIfInBounds_toArray, List.set_cons_zero, List.set_cons_succ, List.getElem_toArray, List.getElem_cons_zero, List.getElem_cons_succ]
          refine wpAnyH_done (by kernel_rfl) ?_ _
          go_wp2_with fail
          go_meet
          case rel => exact ⟨W2.heap.size, rfl, row2_new W2 _ _ _, XL.out, World.rowIs.alloc (rowIs_keep R0.out KW0.out) _, World.rowIs.alloc (rowIs_keep R1.out KW0.out) _, (G.out.trans KW0.out).alloc _⟩
        · refine AllReadyH.cons rfl (fun K hK => ?_) AllReadyH.nil
          simp only [List.getElem_toArray, List.getElem_cons_zero, List.getElem_cons_succ]
          go_simp
          refine hK.out _ _ True.intro (fun hHeld => ?_)
          clear hK K
          try simp only [Act.put, List.setIfInBounds_toArray, List.set_cons_zero, List.set_cons_succ, List.getElem_toArray, List.getElem_cons_zero, List.getElem_cons_succ]
          have XR : Hid ((W1.alloc (.cells #[.int .i64 0, .int .i64 0] 45)).rowIs W1.heap.size 45 2 (pi2 0 0)) := hik (row2_new W1 (.int .i64 0) (.int .i64 0) 45)
          have XL := hik (show w.heap.size + 2 ≤ W1.heap.size by have := L1.out; have := KW.out.size; first | omega | (simp at this; omega))
          replace KW := hik (KW.out.alloc (.cells #[.int .i64 0, .int .i64 0] 45))
          refine wpAnyH_ready (rs := [4]) (by kernel_rfl) (by simp) ?_
          refine AllReadyH.cons rfl (fun K hK => ?_) AllReadyH.nil
          refine stepL_callN 150 #[.tmp 18] #[106] (by rfl) (by rfl) #[.slice (some ⟨xb, 8, none⟩) (32 - 8) (cap0 - 8)] (by simp only [List.map_toArray, List.map_cons, List.map_nil]; rfl) (run_go Tryz.func150 (by kernel_rfl) (by kernel_rfl) _ _) (longWord_any xb 8 (32 - 8) (cap0 - 8) 8 (zs h) _ (hik (fun j hj => KW.out.see (HL.out (8 + j) (by omega)))) HB (by omega) (by have := HLE.out; omega) (by omega) (by have := HCM.out; omega)) ?_
          rintro e W2 ⟨he, kk⟩
          have he : e = .returned (.int .i64 y) := by rw [HY.out]; exact he
          refine ⟨_, he, ?_⟩
          refine hK.out _ _ True.intro (fun hHeld => ?_)
          clear hK K
          try simp only [Act.put, List.setIfInBounds_toArray, List.set_cons_zero, List.set_cons_succ, List.getElem_toArray, List.getElem_cons_zero, List.getElem_cons_succ]
          replace KW := hik (KW.out.trans kk)
          replace XR := hik (rowIs_keep XR.out kk)
          clear he kk
          refine wpAnyH_take (i := 5) (v := ?_) rfl (by kernel_rfl) (by kernel_rfl) (by kernel_rfl) (fun _ _ _ h => h) (Or.inl ⟨by rfl, ?_⟩) (by assumption) ?_
          rotate_left 1
          · (intro w' hSw; (try dsimp only at hSw); go_simp; try with_reducible rfl)
          try simp only [Act.put, List.setIfInBounds_toArray, List.set_cons_zero, List.set_cons_succ, List.getElem_toArray, List.getElem_cons_zero, List.getElem_cons_succ]
          refine wpAnyH_ready (rs := [7]) (by kernel_rfl) (by simp) ?_
          refine AllReadyH.cons rfl (fun K hK => ?_) AllReadyH.nil
          have o0 := XR.out.cell (i := 0) (by omega)
          have o1 := XR.out.cell (i := 1) (by omega)
          have v0 := XR.out.frozen 0
          have v1 := XR.out.frozen 1
          simp only [List.getElem_toArray, List.getElem_cons_zero, List.getElem_cons_succ]
          go_simp
          refine hK.out _ _ True.intro (fun hHeld => ?_)
          clear hK K
          try simp only [Act.put, List.setIfInBounds_toArray, List.set_cons_zero, List.set_cons_succ, List.getElem_toArray, List.getElem_cons_zero, List.getElem_cons_succ]
          refine wpAnyH_done (by kernel_rfl) ?_ _
          go_wp2_with fail
          go_meet
          case rel => exact ⟨W1.heap.size, rfl, row2_set XR.out _ _, XL.out, row2_other (rowIs_keep R0.out KW.out) (by have := XL.out; omega) _ _, row2_other (rowIs_keep R1.out KW.out) (by have := XL.out; omega) _ _, chg2_set (G.out.trans KW.out) _ (fun l => absurd l (by have := XL.out; omega)) _ _⟩
      · refine AllReadyH.cons rfl (fun K hK => ?_) AllReadyH.nil
        simp only [List.getElem_toArray, List.getElem_cons_zero, List.getElem_cons_succ]
        go_simp
        refine hK.out _ _ True.intro (fun hHeld => ?_)
        clear hK K
        try simp only [Act.put, List.setIfInBounds_toArray, List.set_cons_zero, List.set_cons_succ, List.getElem_toArray, List.getElem_cons_zero, List.getElem_cons_succ]
        have XR : Hid ((wc.drew.alloc (.cells #[.int .i64 0, .int .i64 0] 45)).rowIs wc.heap.size 45 2 (pi2 0 0)) := hik (row2_new wc.drew (.int .i64 0) (.int .i64 0) 45)
        have XL := hik (show w.heap.size + 2 ≤ wc.heap.size by have := L1.out; have := KW.out.size; first | omega | (simp at this; omega))
        replace KW := hik (KW.out.alloc (.cells #[.int .i64 0, .int .i64 0] 45))
        refine wpAnyH_ready (rs := [1]) (by kernel_rfl) (by simp) ?_
        refine AllReadyH.cons rfl (fun K hK => ?_) AllReadyH.nil
        refine stepL_callN 150 #[.tmp 15] #[106] (by rfl) (by rfl) #[.slice (some ⟨xb, 0, none⟩) 32 cap0] (by simp only [List.map_toArray, List.map_cons, List.map_nil]; rfl) (run_go Tryz.func150 (by kernel_rfl) (by kernel_rfl) _ _) (longWord_any xb 0 32 cap0 0 (zs h) _ (hik (fun j hj => KW.out.see (HL.out (0 + j) (by omega)))) HB (by omega) (by have := HLE.out; omega) (by omega) (by have := HCM.out; omega)) ?_
        rintro e W1 ⟨he, kk⟩
        have he : e = .returned (.int .i64 x) := by rw [HX.out]; exact he
        refine ⟨_, he, ?_⟩
        refine hK.out _ _ True.intro (fun hHeld => ?_)
        clear hK K
        try simp only [Act.put, List.setIfInBounds_toArray, List.set_cons_zero, List.set_cons_succ, List.getElem_toArray, List.getElem_cons_zero, List.getElem_cons_succ]
        replace KW := hik (KW.out.trans kk)
        replace XR := hik (rowIs_keep XR.out kk)
        clear he kk
        refine wpAnyH_ready (rs := [4]) (by kernel_rfl) (by simp) ?_
        refine AllReadyH.cons rfl (fun K hK => ?_) AllReadyH.nil
        refine stepL_callN 150 #[.tmp 18] #[106] (by rfl) (by rfl) #[.slice (some ⟨xb, 8, none⟩) (32 - 8) (cap0 - 8)] (by simp only [List.map_toArray, List.map_cons, List.map_nil]; rfl) (run_go Tryz.func150 (by kernel_rfl) (by kernel_rfl) _ _) (longWord_any xb 8 (32 - 8) (cap0 - 8) 8 (zs h) _ (hik (fun j hj => KW.out.see (HL.out (8 + j) (by omega)))) HB (by omega) (by have := HLE.out; omega) (by omega) (by have := HCM.out; omega)) ?_
        rintro e W2 ⟨he, kk⟩
        have he : e = .returned (.int .i64 y) := by rw [HY.out]; exact he
        refine ⟨_, he, ?_⟩
        refine hK.out _ _ True.intro (fun hHeld => ?_)
        clear hK K
        try simp only [Act.put, List.setIfInBounds_toArray, List.set_cons_zero, List.set_cons_succ, List.getElem_toArray, List.getElem_cons_zero, List.getElem_cons_succ]
        replace KW := hik (KW.out.trans kk)
        replace XR := hik (rowIs_keep XR.out kk)
        clear he kk
        refine wpAnyH_take (i := 5) (v := ?_) rfl (by kernel_rfl) (by kernel_rfl) (by kernel_rfl) (fun _ _ _ h => h) (Or.inl ⟨by rfl, ?_⟩) (by assumption) ?_
        rotate_left 1
        · (intro w' hSw; (try dsimp only at hSw); go_simp; try with_reducible rfl)
        try simp only [Act.put, List.setIfInBounds_toArray, List.set_cons_zero, List.set_cons_succ, List.getElem_toArray, List.getElem_cons_zero, List.getElem_cons_succ]
        refine wpAnyH_ready (rs := [7]) (by kernel_rfl) (by simp) ?_
        refine AllReadyH.cons rfl (fun K hK => ?_) AllReadyH.nil
        have o0 := XR.out.cell (i := 0) (by omega)
        have o1 := XR.out.cell (i := 1) (by omega)
        have v0 := XR.out.frozen 0
        have v1 := XR.out.frozen 1
        simp only [List.getElem_toArray, List.getElem_cons_zero, List.getElem_cons_succ]
        go_simp
        refine hK.out _ _ True.intro (fun hHeld => ?_)
        clear hK K
        try simp only [Act.put, List.setIfInBounds_toArray, List.set_cons_zero, List.set_cons_succ, List.getElem_toArray, List.getElem_cons_zero, List.getElem_cons_succ]
        refine wpAnyH_done (by kernel_rfl) ?_ _
        go_wp2_with fail
        go_meet
        case rel => exact ⟨wc.heap.size, rfl, row2_set XR.out _ _, XL.out, row2_other (rowIs_keep R0.out KW.out) (by have := XL.out; omega) _ _, row2_other (rowIs_keep R1.out KW.out) (by have := XL.out; omega) _ _, chg2_set (G.out.trans KW.out) _ (fun l => absurd l (by have := XL.out; omega)) _ _⟩
    case rest =>
      obtain ⟨X, rfl, rx, hX, r0, r1, hg⟩ := hcut
      have G9 := hik hg
      have R9 := hik r1
      have e0 : _ = some (Value.int .i64 x) := rx.cell (i := 0) (by omega)
      have e1 : _ = some (Value.int .i64 y) := rx.cell (i := 1) (by omega)
      have s0 : _ = some (Value.string st) := r0.cell (i := 0) (by omega)
      have s1 : _ = some (Value.int .i64 ct) := r0.cell (i := 1) (by omega)
      have f0 : _ = some (Value.int .i64 0) := r1.cell (i := 0) (by omega)
      have f1 : _ = some (Value.int .i64 0) := r1.cell (i := 1) (by omega)
      have z0 := r1.frozen 0
      have z1 := r1.frozen 1
      have n1 : ¬ X = w.heap.size + 1 := by omega
      have n2 : ¬ w.heap.size + 1 = X := by omega
      clear rx r0 r1 hg R0 R1 G HL HB L1 hX
      go_wp2
      go_region
      go_wp2
      have R8 : Hid (wc.drew.rowIs (w.heap.size + 1) 45 2 (pi2 0 0)) := hik R9.out.drew
      exact bodyPost_ret (v := .tuple #[.agg #[.int .i64 x, .int .i64 y], .iface 160 (.agg #[.string st, .int .i64 (ct + 1)])]) (by simp [results, Tryz.results148, go_sem, row2_s0 R9.out (.int .i64 x), row2_s1 R9.out (.int .i64 x) (.int .i64 y)]) rfl ⟨by rw [EA.out, EB.out], (chg2_set G9.out _ (fun l => absurd l (by simp)) _ _).drew⟩

end Go.Proofs.YtgiefpipflcbgaqGreatDoor

namespace Go.Proofs.YtgiefpipflcbgaqGreatDoor
open Go.ChangeShapes Go.WideShapes Go.ChangeAt Go.RowKit
set_option linter.unusedVariables false
set_option maxRecDepth 100000
set_option linter.unusedSimpArgs false

set_option maxHeartbeats 2000000 in
theorem scriptDraw_any (c : Option Addr) (len cap m : Nat) (at' : Int) (f g : Nat → Int) (w : World) (h : Hid (PairV w c len f g)) (hm : m < len) (hl : len ≤ 64) (a0 : 0 ≤ at') (a1 : at' ≤ 1000000) (hmod : at'.tmod (len : Int) = (m : Int)) :
    Calls Tryz.prog 153 #[.agg #[.slice c len cap, .int .i64 at']] w fun e w' => e = .returned (.tuple #[.agg #[.int .i64 (f m), .int .i64 (g m)], .iface 162 (.agg #[.slice c len cap, .int .i64 (at' + 1)])]) ∧ Chg nob w w' := by
  obtain ⟨xb, xo, rfl, hxb, e1, e2⟩ := h.out m hm
  have hl0 : 0 < (len : Int) := by omega
  have hne : ¬ (len : Int) = 0 := by omega
  have hml : (m : Int) < (len : Int) := by omega
  have hn0 : ¬ len = 0 := by omega
  have hp0 : 0 < len := by omega
  go_enter Tryz.func153, Tryz.ntmps153
  go_wp2
  go_region
  go_wp2
  exact bodyPost_ret (v := .tuple #[.agg #[.int .i64 (f m), .int .i64 (g m)], .iface 162 (.agg #[.slice (some ⟨xb, xo, none⟩) len cap, .int .i64 (at' + 1)])]) (by simp [results, Tryz.results153, go_sem]) rfl ⟨rfl, (by repeat (first | with_reducible exact Chg.refl _ _ | with_reducible refine Chg.alloc ?_ _ | with_reducible refine Chg.drewN ?_ _ | with_reducible refine Chg.drew ?_ | with_reducible refine Chg.setCell ?_ (fun l => absurd l (by simp <;> omega)) _))⟩

/-- Who draws, as a value. -/
def whoV (c : Option Addr) (len cap : Nat) (at' : Int) (st : ByteArray) (ct : Int) : Value := if len = 0 then .iface 160 (.agg #[.string st, .int .i64 ct]) else .iface 162 (.agg #[.slice c len cap, .int .i64 at'])

set_option maxHeartbeats 1000000 in
theorem whoDraws_any (c : Option Addr) (len cap : Nat) (at' : Int) (st : ByteArray) (ct : Int) (w : World) (hl : len ≤ 64) :
    Calls Tryz.prog 121 #[.agg #[.slice c len cap, .int .i64 at', .string st, .int .i64 ct]] w fun e w' => e = .returned (whoV c len cap at' st ct) ∧ Chg nob w w' := by
  by_cases h0 : len = 0
  · subst h0
    go_enter Tryz.func121, Tryz.ntmps121
    go_wp2
    go_ret
    exact ⟨rfl, (Chg.refl _ _).alloc _⟩
  · have h1 : ((len : Int) == 0) = false := by simp; omega
    have E := hik (show whoV c len cap at' st ct = .iface 162 (.agg #[.slice c len cap, .int .i64 at']) from if_neg h0)
    go_enter Tryz.func121, Tryz.ntmps121
    go_wp2
    go_ret
    exact ⟨by rw [E.out]; rfl, (Chg.refl _ _).alloc _⟩

/-- What the switch on the sort of a drawer finds. -/
theorem ta_ss (v : Value) (w : World) : (Instr.typeAssert (.iface 160 v) 150 160 true).run Tryz.prog w = .ok (.tuple #[v, .bool true]) w := by kernel_rfl
theorem ta_cs (v : Value) (w : World) : (Instr.typeAssert (.iface 162 v) 150 160 true).run Tryz.prog w = .ok (.tuple #[.agg #[.string ⟨#[]⟩, .int .i64 0], .bool false]) w := by kernel_rfl
theorem ta_cc (v : Value) (w : World) : (Instr.typeAssert (.iface 162 v) 150 162 true).run Tryz.prog w = .ok (.tuple #[v, .bool true]) w := by kernel_rfl

set_option maxHeartbeats 2000000 in
theorem drawnTo_any (c : Option Addr) (len cap : Nat) (f g : Nat → Int) (at' : Int) (st : ByteArray) (ct : Int) (a2 c2 : Int) (w : World) (h : Hid (PairV w c len f g)) (hl : len ≤ 64) :
    Calls Tryz.prog 122 #[.agg #[.slice c len cap, .int .i64 at', .string st, .int .i64 ct], whoV c len cap a2 st c2] w fun e w' => SrAns w len f g (if len = 0 then at' else a2) st (if len = 0 then c2 else ct) e w' := by
  have t1 := ta_ss
  have t2 := ta_cs
  have t3 := ta_cc
  by_cases h0 : len = 0
  · subst h0
    rw [if_pos rfl, if_pos rfl, show whoV c 0 cap a2 st c2 = .iface 160 (.agg #[.string st, .int .i64 c2]) from rfl]
    go_enter Tryz.func122, Tryz.ntmps122
    go_wp2_with fail
    refine (copied_any c 0 cap f g at' st c2 _ (hik (h.out.keep ((((Chg.refl nob w).alloc _).alloc _).alloc _))) (by omega)).mono ?_
    rintro e W3 ⟨c3, cap3, rfl, o3, k3⟩
    have G3 := hik (((((Chg.refl nob w).alloc _).alloc _).alloc _).trans k3)
    have R1 := hik (rowIs_keep (World.rowIs.alloc (row4_new (w.alloc (.cells #[.slice c 0 cap, .int .i64 at', .string st, .int .i64 c2] 31)) (.slice none 0 0) (.int .i64 0) (.string ⟨#[]⟩) (.int .i64 0) 31) (.cells #[.string st, .int .i64 c2] 160)) k3)
    have R3 : Hid (W3.rowIs (w.heap.size + 1) 31 4 (pv4 (.slice none 0 0) (.int .i64 0) (.string ⟨#[]⟩) (.int .i64 0))) := hik (by simpa using R1.out)
    have O3 := hik o3
    clear k3 o3 R1 t1 t2 t3
    have hz3 : w.heap.size + 1 < W3.heap.size := R3.out.lt
    have y0 := R3.out.cell (i := 0) (by omega)
    have v0 := R3.out.frozen 0
    have y1 := R3.out.cell (i := 1) (by omega)
    have v1 := R3.out.frozen 1
    have y2 := R3.out.cell (i := 2) (by omega)
    have v2 := R3.out.frozen 2
    have y3 := R3.out.cell (i := 3) (by omega)
    have v3 := R3.out.frozen 3
    go_wp2
    exact bodyPost_ret (v := .agg #[.slice c3 0 cap3, .int .i64 at', .string st, .int .i64 c2]) (by simp [results, Tryz.results122, go_sem, row4_s0 R3.out (.slice c3 0 cap3), row4_s1 R3.out (.slice c3 0 cap3) (.int .i64 at'), row4_s2 R3.out (.slice c3 0 cap3) (.int .i64 at') (.string st), row4_s3 R3.out (.slice c3 0 cap3) (.int .i64 at') (.string st) (.int .i64 c2)]) rfl ⟨_, _, rfl, ((O3.out.chg (P := fun b => b = w.heap.size + 1) (chg4_set (Chg.refl (fun b => b = w.heap.size + 1) W3) (w.heap.size + 1) (fun _ => rfl) _ _ _ _) (fun b hb _ hp => (by simp at hb; omega))).low (B' := w.heap.size) (by simp; omega)), chg4_set G3.out _ (fun l => absurd l (by simp)) _ _ _ _⟩
  · rw [if_neg h0, if_neg h0, show whoV c len cap a2 st c2 = .iface 162 (.agg #[.slice c len cap, .int .i64 a2]) from if_neg h0]
    go_enter Tryz.func122, Tryz.ntmps122
    go_wp2_with fail
    refine (copied_any c len cap f g a2 st ct _ (hik (h.out.keep ((((Chg.refl nob w).alloc _).alloc _).alloc _))) (by omega)).mono ?_
    rintro e W3 ⟨c3, cap3, rfl, o3, k3⟩
    have G3 := hik (((((Chg.refl nob w).alloc _).alloc _).alloc _).trans k3)
    have R1 := hik (rowIs_keep (World.rowIs.alloc (row4_new (w.alloc (.cells #[.slice c len cap, .int .i64 a2, .string st, .int .i64 ct] 31)) (.slice none 0 0) (.int .i64 0) (.string ⟨#[]⟩) (.int .i64 0) 31) (.cells #[.slice c len cap, .int .i64 a2] 162)) k3)
    have R3 : Hid (W3.rowIs (w.heap.size + 1) 31 4 (pv4 (.slice none 0 0) (.int .i64 0) (.string ⟨#[]⟩) (.int .i64 0))) := hik (by simpa using R1.out)
    have O3 := hik o3
    clear k3 o3 R1 t1 t2 t3
    have hz3 : w.heap.size + 1 < W3.heap.size := R3.out.lt
    have y0 := R3.out.cell (i := 0) (by omega)
    have v0 := R3.out.frozen 0
    have y1 := R3.out.cell (i := 1) (by omega)
    have v1 := R3.out.frozen 1
    have y2 := R3.out.cell (i := 2) (by omega)
    have v2 := R3.out.frozen 2
    have y3 := R3.out.cell (i := 3) (by omega)
    have v3 := R3.out.frozen 3
    go_wp2
    exact bodyPost_ret (v := .agg #[.slice c3 len cap3, .int .i64 a2, .string st, .int .i64 ct]) (by simp [results, Tryz.results122, go_sem, row4_s0 R3.out (.slice c3 len cap3), row4_s1 R3.out (.slice c3 len cap3) (.int .i64 a2), row4_s2 R3.out (.slice c3 len cap3) (.int .i64 a2) (.string st), row4_s3 R3.out (.slice c3 len cap3) (.int .i64 a2) (.string st) (.int .i64 ct)]) rfl ⟨_, _, rfl, ((O3.out.chg (P := fun b => b = w.heap.size + 1) (chg4_set (Chg.refl (fun b => b = w.heap.size + 1) W3) (w.heap.size + 1) (fun _ => rfl) _ _ _ _) (fun b hb _ hp => (by simp at hb; omega))).low (B' := w.heap.size) (by simp; omega)), chg4_set G3.out _ (fun l => absurd l (by simp)) _ _ _ _⟩

end Go.Proofs.YtgiefpipflcbgaqGreatDoor

namespace Go.Proofs.YtgiefpipflcbgaqGreatDoor
open Go.ChangeShapes Go.WideShapes Go.ChangeAt Go.RowKit
set_option linter.unusedVariables false
set_option maxRecDepth 100000
set_option linter.unusedSimpArgs false

theorem L0_le {K : Int} {n : Nat} {L : Nat → Nat} {f g : Nat → Nat → Int} (h : ac8 K n L f g = 0) : L 0 ≤ 64 ∧ ∃ i, i ≤ 6 ∧ L 0 = 2 ^ i := by
  obtain ⟨k, _, hk, hn, htk⟩ := ac8_ok h
  obtain ⟨i, hi, e⟩ := p6_ex (tok_p6 (htk 0 (by rcases hk with rfl | rfl <;> omega)).1).1
  exact ⟨by rw [e]; exact pow_le6 hi, i, hi, e⟩
theorem fit_in {t : Nat → Nat → El} {N j i : Nat} (hi : i < N) : (fun i => fitE (t i) N zE) j i = t j i := by
  show (if i < N then t j i else zE i) = t j i
  rw [if_pos hi]

end Go.Proofs.YtgiefpipflcbgaqGreatDoor
