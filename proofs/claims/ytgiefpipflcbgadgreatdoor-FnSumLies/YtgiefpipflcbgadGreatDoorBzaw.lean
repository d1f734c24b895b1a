/- Several texts in one: What a sponge and a script draw, by the program: contracts. Conditions: a state of 32 bytes, numbers of a right source, rows that can be read; the tables hold the shifts and the rounds' constants. · What a script draws, who draws, and what is left behind draws, by the program: contracts. Conditions: a right source, rows that can be read; the tables hold the shifts and the rounds' constants. · What a source draws, by the program: contracts. Conditions: a right source with draws left, rows that can be read; the tables hold the shifts and the rounds' constants. · What right sources draw, by the program: contracts. Conditions: right sources with draws left, rows that can be read; the tables hold the shifts and the rounds' constants. -/
import Derived.Test.YtgiefpipflcbgadGreatDoorBzat
import Derived.Test.YtgiefpipflcbgadGreatDoorBzax
import Derived.Test.YtgiefpipflcbgadGreatDoorBzao
import Derived.BigRegion
import Derived.Deep.RegionHeld3
import Derived.Test.YtgiefpipflcbgadGreatDoorBzav
namespace Go.Proofs.YtgiefpipflcbgadGreatDoor
open Go.ChangeShapes Go.WideShapes Go.ChangeAt Go.RowKit
set_option linter.unusedVariables false
set_option maxRecDepth 100000
set_option linter.unusedSimpArgs false

theorem zs_cut (s : ByteArray) (a b i : Nat) (hb : b ≤ s.size) (hi : a + i < b) : zs (s.extract a b) i = zs s (a + i) := by
  have h1 : i < (s.extract a b).size := by simp; omega
  rw [← zs_at _ _ h1, ← zs_at s (a + i) (by omega)]
  congr 1
  simp [ByteArray.getElem_extract]
theorem acc_step (a z : Int) : (a % 2130706433 * 256 + z) % 2130706433 = (a * 256 + z) % 2130706433 := by
  rw [Int.add_emod, Int.mul_emod, Int.emod_emod, ← Int.mul_emod, ← Int.add_emod]
/-- Eight bytes by the model's way are those of the program's. -/
theorem fl8_w8 (h : ByteArray) (a : Nat) (hs : a + 8 ≤ h.size) : fl8 (h.extract a (a + 8)) 8 = w8 (zs h) a % 2130706433 := by
  simp only [fl8]
  rw [zs_cut h a (a + 8) 0 hs (by omega), zs_cut h a (a + 8) 1 hs (by omega), zs_cut h a (a + 8) 2 hs (by omega), zs_cut h a (a + 8) 3 hs (by omega), zs_cut h a (a + 8) 4 hs (by omega), zs_cut h a (a + 8) 5 hs (by omega), zs_cut h a (a + 8) 6 hs (by omega), zs_cut h a (a + 8) 7 hs (by omega)]
  simp only [acc_step, w8, w4, Nat.add_zero, Nat.add_assoc]
  congr 1
  have e : ∀ x0 x1 x2 x3 x4 x5 x6 x7 : Int, ((((((((0 * 256 + x0) * 256 + x1) * 256 + x2) * 256 + x3) * 256 + x4) * 256 + x5) * 256 + x6) * 256 + x7) = (x0 * 16777216 + x1 * 65536 + x2 * 256 + x3) * 4294967296 + (x4 * 16777216 + x5 * 65536 + x6 * 256 + x7) := fun x0 x1 x2 x3 x4 x5 x6 x7 => by omega
  exact e _ _ _ _ _ _ _ _
theorem drA_w8 (st : ByteArray) (ct : Int) : drA st ct = w8 (zs (drH st ct)) 0 % 2130706433 := fl8_w8 (drH st ct) 0 (by unfold drH; rw [hsh_size]; omega)
theorem drB_w8 (st : ByteArray) (ct : Int) : drB st ct = w8 (zs (drH st ct)) 8 % 2130706433 := fl8_w8 (drH st ct) 8 (by unfold drH; rw [hsh_size]; omega)

/-- A drawn element in its block, and what is kept beside it. -/
def PtE (w : World) (st : ByteArray) (ct x y : Int) (v : Value) (W : World) : Prop := ∃ X : Nat, v = .pointer (some ⟨X, 0, none⟩) ∧ W.rowIs X 31 2 (pi2 x y) ∧ w.heap.size + 2 ≤ X ∧ W.rowIs w.heap.size 164 2 (pv2 (.string st) (.int .i64 ct)) ∧ W.rowIs (w.heap.size + 1) 31 2 (pi2 0 0) ∧ Chg nob w W
/-- The hash's bytes, and what is kept beside them. -/
def HshW (w : World) (h st : ByteArray) (ct : Int) (v : Value) (W : World) : Prop := HshV w h v W ∧ W.rowIs w.heap.size 164 2 (pv2 (.string st) (.int .i64 ct)) ∧ W.rowIs (w.heap.size + 1) 31 2 (pi2 0 0)

set_option maxHeartbeats 2000000 in
theorem spongeDraw_any (st : ByteArray) (ct : Int) (w : World) (htb : Hid (Tabs w)) (hst : st.size = 32) (c0 : 0 ≤ ct) (c1 : ct ≤ 1000000) :
    Calls Tryz.prog 158 #[.agg #[.string st, .int .i64 ct]] w fun e w' => e = .returned (.tuple #[.agg #[.int .i64 (drA st ct), .int .i64 (drB st ct)], .iface 164 (.agg #[.string st, .int .i64 (ct + 1)])]) ∧ Chg nob w w' := by
  have hst' : (st.size : Int) = 32 := by omega
  have hb4 : (be4 ct).size = 4 := be4_size _
  have hsz : (drT st ct).size ≤ 65536 := by rw [drT_size]; omega
  have HSZ := hik hsz
  clear hsz
  obtain ⟨h, hh⟩ : ∃ h, h = drH st ct := ⟨_, rfl⟩
  have hs32 : h.size = 32 := by rw [hh]; exact hsh_size _
  have EA := hik (show drA st ct = w8 (zs h) 0 % 2130706433 by rw [hh]; exact drA_w8 st ct)
  have EB := hik (show drB st ct = w8 (zs h) 8 % 2130706433 by rw [hh]; exact drB_w8 st ct)
  have HH := hik hh
  have HB := hik (zs_B h)
  clear hh
  obtain ⟨x, hx⟩ : ∃ x, x = w8 (zs h) 0 % 2130706433 := ⟨_, rfl⟩
  obtain ⟨y, hy⟩ : ∃ y, y = w8 (zs h) 8 % 2130706433 := ⟨_, rfl⟩
  rw [← hx] at EA
  rw [← hy] at EB
  have HX := hik hx
  have HY := hik hy
  clear hx hy
  go_enter Tryz.func158, Tryz.ntmps158
  go_upto_region 1 with fail
  go_cut [4] from 6 (fun v W => HshW w h st ct v W)
  case first =>
    refine wp_region_held_drew (S := fun w' => w'.cell? ⟨w.heap.size, 0, none⟩ = some (.string st) ∧ w'.cell? ⟨w.heap.size, 1, none⟩ = some (.int .i64 ct)) (by kernel_rfl) ⟨by go_simp, by go_simp⟩ (fun hHeld => ?_)
    refine wpAnyH_take (i := 0) (v := ?_) rfl (by kernel_rfl) (by kernel_rfl) (by kernel_rfl) (fun _ _ _ h => h) (Or.inl ⟨by rfl, ?_⟩) (by assumption) ?_
    rotate_left 1
    · (intro w' hSw; (try dsimp only at hSw); go_simp; try with_reducible rfl)
    try simp only [Act.put, List.setIfInBounds_toArray, List.set_cons_zero, List.set_cons_succ, List.getElem_toArray, List.getElem_cons_zero, List.getElem_cons_succ]
    refine wpAnyH_take (i := 1) (v := ?_) rfl (by kernel_rfl) (by kernel_rfl) (by kernel_rfl) (fun _ _ _ h => h) (Or.inl ⟨by rfl, ?_⟩) (by assumption) ?_
    rotate_left 1
    · (intro w' hSw; (try dsimp only at hSw); go_simp; try with_reducible rfl)
    try simp only [Act.put, List.setIfInBounds_toArray, List.set_cons_zero, List.set_cons_succ, List.getElem_toArray, List.getElem_cons_zero, List.getElem_cons_succ]
    refine wpAnyH_take (i := 2) (v := ?_) rfl (by kernel_rfl) (by kernel_rfl) (by kernel_rfl) (fun _ _ _ h => h) (Or.inl ⟨by rfl, ?_⟩) (by assumption) ?_
    rotate_left 1
    · (intro w' hSw; (try dsimp only at hSw); go_simp; try with_reducible rfl)
    try simp only [Act.put, List.setIfInBounds_toArray, List.set_cons_zero, List.set_cons_succ, List.getElem_toArray, List.getElem_cons_zero, List.getElem_cons_succ]
    refine wpAnyH_take (i := 3) (v := ?_) rfl (by kernel_rfl) (by kernel_rfl) (by kernel_rfl) (fun _ _ _ h => h) (Or.inl ⟨by rfl, ?_⟩) (by assumption) ?_
    rotate_left 1
    · (intro w' hSw; (try dsimp only at hSw); go_simp; try with_reducible rfl)
    try simp only [Act.put, List.setIfInBounds_toArray, List.set_cons_zero, List.set_cons_succ, List.getElem_toArray, List.getElem_cons_zero, List.getElem_cons_succ]
    refine wpAnyH_take (i := 4) (v := ?_) rfl (by kernel_rfl) (by kernel_rfl) (by kernel_rfl) (fun _ _ _ h => h) (Or.inl ⟨by rfl, ?_⟩) (by assumption) ?_
    rotate_left 1
    · (intro w' hSw; (try dsimp only at hSw); go_simp; try with_reducible rfl)
    try simp only [Act.put, List.setIfInBounds_toArray, List.set_cons_zero, List.set_cons_succ, List.getElem_toArray, List.getElem_cons_zero, List.getElem_cons_succ]
    refine wpAnyH_ready (rs := [5]) (by kernel_rfl) (by simp) ?_
    refine AllReadyH.cons rfl (fun K hK => ?_) AllReadyH.nil
    refine stepL_callN 129 #[.tmp 10] #[3] (by rfl) (by rfl) #[.int .i64 ct] (by simp only [List.map_toArray, List.map_cons, List.map_nil]; rfl) (run_go Tryz.func129 (by kernel_rfl) (by kernel_rfl) _ _) (wordText_any ct _ c0 (by omega)) ?_
    rintro e W1 ⟨he, k1⟩
    refine ⟨_, he, ?_⟩
    refine hK.out _ _ ⟨k1.see hHeld.1, k1.see hHeld.2⟩ (fun hHeld => ?_)
    clear hK K
    try simp only [Act.put, List.setIfInBounds_toArray, List.set_cons_zero, List.set_cons_succ, List.getElem_toArray, List.getElem_cons_zero, List.getElem_cons_succ]
    have K1 := hik ((Chg.refl nob ((w.alloc (.cells #[.string st, .int .i64 ct] 164)).alloc (.cells #[.int .i64 0, .int .i64 0] 31))).drew1.trans k1)
    clear he k1
    refine wpAnyH_take (i := 6) (v := ?_) rfl (by kernel_rfl) (by kernel_rfl) (by kernel_rfl) (fun _ _ _ h => h) (Or.inl ⟨by rfl, ?_⟩) (by assumption) ?_
    rotate_left 1
    · (intro w' hSw; (try dsimp only at hSw); go_simp; try with_reducible rfl)
    try simp only [Act.put, List.setIfInBounds_toArray, List.set_cons_zero, List.set_cons_succ, List.getElem_toArray, List.getElem_cons_zero, List.getElem_cons_succ]
    refine wpAnyH_ready (rs := [7]) (by kernel_rfl) (by simp) ?_
    refine AllReadyH.cons rfl (fun K hK => ?_) AllReadyH.nil
    refine stepL_callN 159 #[.tmp 12] #[9] (by rfl) (by rfl) #[.string (drT st ct)] (by simp only [List.map_toArray, List.map_cons, List.map_nil]; rfl) (run_go Tryz.func159 (by kernel_rfl) (by kernel_rfl) _ _) (hashOf_any (drT st ct) _ (hik (htb.out.keep ((((Chg.refl nob w).alloc _).alloc _).trans K1.out))) HSZ.out) ?_
    rintro e W2 ⟨he, k2⟩
    have he : e = .returned (.string h) := by rw [HH.out]; exact he
    refine ⟨_, he, ?_⟩
    refine hK.out _ _ ⟨k2.see hHeld.1, k2.see hHeld.2⟩ (fun hHeld => ?_)
    clear hK K
    try simp only [Act.put, List.setIfInBounds_toArray, List.set_cons_zero, List.set_cons_succ, List.getElem_toArray, List.getElem_cons_zero, List.getElem_cons_succ]
    have K2 := hik (K1.out.trans k2)
    clear he k2
    obtain ⟨W0, cap0, hcv, HB0, HG0, HC0⟩ := conv_text h W2 (by omega)
    refine wpAnyH_ready (rs := [8]) (by kernel_rfl) (by simp) ?_
    refine AllReadyH.cons rfl (fun K hK => ?_) AllReadyH.nil
    refine stepL_conv 9 22 (.tmp 13) (by rfl) (by rfl) (.string h) _ _ (by rfl) hcv ?_
    refine hK.out _ _ ⟨HG0.out.see hHeld.1, HG0.out.see hHeld.2⟩ (fun hHeld => ?_)
    clear hK K
    try simp only [Act.put, List.setIfInBounds_toArray, List.set_cons_zero, List.set_cons_succ, List.getElem_toArray, List.getElem_cons_zero, List.getElem_cons_succ]
    clear hcv
    refine wpAnyH_take (i := 9) (v := ?_) rfl (by kernel_rfl) (by kernel_rfl) (by kernel_rfl) (fun _ _ _ h => h) (Or.inl ⟨by rfl, ?_⟩) (by assumption) ?_
    rotate_left 1
    · (intro w' hSw; (try dsimp only at hSw); go_simp; try with_reducible rfl)
    try simp only [Act.put, List.setIfInBounds_toArray, List.set_cons_zero, List.set_cons_succ, List.getElem_toArray, List.getElem_cons_zero, List.getElem_cons_succ]
    have KK := hik (K2.out.trans HG0.out)
    refine wpAnyH_done (by kernel_rfl) ?_ _
    go_wp2_with fail
    go_meet
    case rel => exact ⟨⟨W2.heap.size, cap0, rfl, by have := HB0.out.le; omega, HC0, fun j hj => HB0.out.at_ j (by omega), (((Chg.refl nob w).alloc _).alloc _).trans KK.out⟩, rowIs_keep (World.rowIs.alloc (row2_new w _ _ _) _) KK.out, by rw [show w.heap.size + 1 = (w.alloc (.cells #[.string st, .int .i64 ct] 164)).heap.size by simp]; exact rowIs_keep (row2_new (w.alloc (.cells #[.string st, .int .i64 ct] 164)) _ _ _) KK.out⟩
  case rest =>
    obtain ⟨⟨xb, cap0, rfl, hle, hcm, hcell, hg⟩, r0, r1⟩ := hcut
    have G := hik hg
    have R0 := hik r0
    have R1 := hik r1
    have HL := hik hcell
    have hf1 : (8 : Int) ≤ (cap0 : Int) := by omega
    have hf2 : ¬ (cap0 : Int) - 8 = 0 := by omega
    have hf3 : ¬ cap0 - 8 = 0 := by omega
    have hf4 : ¬ cap0 = 8 := by omega
    have HCM := hik hcm
    have HLE := hik hle
    have L1 := hik R1.out.lt
    clear hcell hg r0 r1 hcm hle
    go_upto_region 2 with fail
    go_cut [5] from 6 (fun v W => PtE w st ct x y v W)
    case first =>
      refine wp_region_held_drew (S := fun _ => True) (by kernel_rfl) True.intro (fun hHeld => ?_)
      have KW := hik ((Chg.refl nob wc).drew1)
      refine wpAnyH_take (i := 0) (v := ?_) rfl (by kernel_rfl) (by kernel_rfl) (by kernel_rfl) (fun _ _ _ h => h) (Or.inl ⟨by rfl, ?_⟩) (by assumption) ?_
      rotate_left 1
      · (intro w' hSw; (try dsimp only at hSw); go_simp; try with_reducible rfl)
      try simp only [Act.put, List.setIfInBounds_toArray, List.set_cons_zero, List.set_cons_succ, List.getElem_toArray, List.getElem_cons_zero, List.getElem_cons_succ]
      refine wpAnyH_take (i := 2) (v := ?_) rfl (by kernel_rfl) (by kernel_rfl) (by kernel_rfl) (fun _ _ _ h => h) (Or.inl ⟨by rfl, ?_⟩) (by assumption) ?_
      rotate_left 1
      · (intro w' hSw; (try dsimp only at hSw); go_simp; try with_reducible rfl)
      try simp only [Act.put, List.setIfInBounds_toArray, List.set_cons_zero, List.set_cons_succ, List.getElem_toArray, List.getElem_cons_zero, List.getElem_cons_succ]
      refine wpAnyH_take (i := 3) (v := ?_) rfl (by kernel_rfl) (by kernel_rfl) (by kernel_rfl) (fun _ _ _ h => h) (Or.inl ⟨by rfl, ?_⟩) (by assumption) ?_
      rotate_left 1
      · (intro w' hSw; (try dsimp only at hSw); go_simp; try with_reducible rfl)
      try simp only [Act.put, List.setIfInBounds_toArray, List.set_cons_zero, List.set_cons_succ, List.getElem_toArray, List.getElem_cons_zero, List.getElem_cons_succ]
      refine wpAnyH_ready (rs := [1, 6]) (by kernel_rfl) (by simp) ?_
      refine AllReadyH.cons rfl (fun K hK => ?_) ?_
      · refine stepL_callN 160 #[.tmp 15] #[22] (by rfl) (by rfl) #[.slice (some ⟨xb, 0, none⟩) 32 cap0] (by simp only [List.map_toArray, List.map_cons, List.map_nil]; rfl) (run_go Tryz.func160 (by kernel_rfl) (by kernel_rfl) _ _) (longWord_any xb 0 32 cap0 0 (zs h) _ (hik (fun j hj => KW.out.see (HL.out (0 + j) (by omega)))) HB (by omega) (by have := HLE.out; omega) (by omega) (by have := HCM.out; omega)) ?_
        rintro e W1 ⟨he, kk⟩
        have he : e = .returned (.int .i64 x) := by rw [HX.out]; exact he
        refine ⟨_, he, ?_⟩
        refine hK.out _ _ True.intro (fun hHeld => ?_)
        clear hK K
        try simp only [Act.put, List.setIfInBounds_toArray, List.set_cons_zero, List.set_cons_succ, List.getElem_toArray, List.getElem_cons_zero, List.getElem_cons_succ]
        replace KW := hik (KW.out.trans kk)
        clear he kk
        refine wpAnyH_ready (rs := [4, 6]) (by kernel_rfl) (by simp) ?_
        refine AllReadyH.cons rfl (fun K hK => ?_) ?_
        · refine stepL_callN 160 #[.tmp 18] #[22] (by rfl) (by rfl) #[.slice (some ⟨xb, 8, none⟩) (32 - 8) (cap0 - 8)] (by simp only [List.map_toArray, List.map_cons, List.map_nil]; rfl) (run_go Tryz.func160 (by kernel_rfl) (by kernel_rfl) _ _) (longWord_any xb 8 (32 - 8) (cap0 - 8) 8 (zs h) _ (hik (fun j hj => KW.out.see (HL.out (8 + j) (by omega)))) HB (by omega) (by have := HLE.out; omega) (by omega) (by have := HCM.out; omega)) ?_
          rintro e W2 ⟨he, kk⟩
          have he : e = .returned (.int .i64 y) := by rw [HY.out]; exact he
          refine ⟨_, he, ?_⟩
          refine hK.out _ _ True.intro (fun hHeld => ?_)
          clear hK K
          try simp only [Act.put, List.setIfInBounds_toArray, List.set_cons_zero, List.set_cons_succ, List.getElem_toArray, List.getElem_cons_zero, List.getElem_cons_succ]
          replace KW := hik (KW.out.trans kk)
          clear he kk
          refine wpAnyH_take (i := 5) (v := ?_) rfl (by kernel_rfl) (by kernel_rfl) (by kernel_rfl) (fun _ _ _ h => h) (Or.inl ⟨by rfl, ?_⟩) (by assumption) ?_
          rotate_left 1
          · (intro w' hSw; (try dsimp only at hSw); go_simp; try with_reducible rfl)
          try simp only [Act.put, List.setIfInBounds_toArray, List.set_cons_zero, List.set_cons_succ, List.getElem_toArray, List.getElem_cons_zero, List.getElem_cons_succ]
          refine wpAnyH_ready (rs := [6]) (by kernel_rfl) (by simp) ?_
          refine AllReadyH.cons rfl (fun K hK => ?_) AllReadyH.nil
          have KW0 := hik KW.out
          simp only [List.getElem_toArray, List.getElem_cons_zero, List.getElem_cons_succ]
          go_simp
          refine hK.out _ _ True.intro (fun hHeld => ?_)
          clear hK K
          try simp only [Act.put, List.setIfInBounds_toArray, List.set_cons_zero, List.set_cons_succ, List.getElem_toArray, List.getElem_cons_zero, List.getElem_cons_succ]
          have XR : Hid ((W2.alloc (.cells #[.int .i64 0, .int .i64 0] 31)).rowIs W2.heap.size 31 2 (pi2 0 0)) := hik (row2_new W2 (.int .i64 0) (.int .i64 0) 31)
          have XL := hik (show w.heap.size + 2 ≤ W2.heap.size by have := L1.out; have := KW.out.size; first | omega | (simp at this; omega))
          replace KW := hik (KW.out.alloc (.cells #[.int .i64 0, .int .i64 0] 31))
          refine wpAnyH_ready (rs := [7]) (by kernel_rfl) (by simp) ?_
          refine AllReadyH.cons rfl (fun K hK => ?_) AllReadyH.nil
          have o0 := XR.out.cell (i := 0) (by omega)
          have o1 := XR.out.cell (i := 1) (by omega)
          have v0 := XR.out.frozen 0
          have v1 := XR.out.frozen 1
          simp only [List.getElem_toArray, List.getElem_cons_zero, List.getElem_cons_succ]
          go_simp
          refine hK.out _ _ True.intro (fun hHeld => ?_)
          clear hK K
          try simp only [Act.put, List.setIfInBounds_toArray, List.set_cons_zero, List.set_cons_succ, List.getElem_toArray, List.getElem_cons_zero, List.getElem_cons_succ]
          refine wpAnyH_done (by kernel_rfl) ?_ _
          go_wp2_with fail
          go_meet
          case rel => exact ⟨W2.heap.size, rfl, row2_new W2 _ _ _, XL.out, World.rowIs.alloc (rowIs_keep R0.out KW0.out) _, World.rowIs.alloc (rowIs_keep R1.out KW0.out) _, (G.out.trans KW0.out).alloc _⟩
        · refine AllReadyH.cons rfl (fun K hK => ?_) AllReadyH.nil
          simp only [List.getElem_toArray, List.getElem_cons_zero, List.getElem_cons_succ]
          go_simp
          refine hK.out _ _ True.intro (fun hHeld => ?_)
          clear hK K
          try simp only [Act.put, List.setIfInBounds_toArray, List.set_cons_zero, List.set_cons_succ, List.getElem_toArray, List.getElem_cons_zero, List.getElem_cons_succ]
          have XR : Hid ((W1.alloc (.cells #[.int .i64 0, .int .i64 0] 31)).rowIs W1.heap.size 31 2 (pi2 0 0)) := hik (row2_new W1 (.int .i64 0) (.int .i64 0) 31)
          have XL := hik (show w.heap.size + 2 ≤ W1.heap.size by have := L1.out; have := KW.out.size; first | omega | (simp at this; omega))
          replace KW := hik (KW.out.alloc (.cells #[.int .i64 0, .int .i64 0] 31))
          refine wpAnyH_ready (rs := [4]) (by kernel_rfl) (by simp) ?_
          refine AllReadyH.cons rfl (fun K hK => ?_) AllReadyH.nil
          refine stepL_callN 160 #[.tmp 18] #[22] (by rfl) (by rfl) #[.slice (some ⟨xb, 8, none⟩) (32 - 8) (cap0 - 8)] (by simp only [List.map_toArray, List.map_cons, List.map_nil]; rfl) (run_go Tryz.func160 (by kernel_rfl) (by kernel_rfl) _ _) (longWord_any xb 8 (32 - 8) (cap0 - 8) 8 (zs h) _ (hik (fun j hj => KW.out.see (HL.out (8 + j) (by omega)))) HB (by omega) (by have := HLE.out; omega) (by omega) (by have := HCM.out; omega)) ?_
          rintro e W2 ⟨he, kk⟩
          have he : e = .returned (.int .i64 y) := by rw [HY.out]; exact he
          refine ⟨_, he, ?_⟩
          refine hK.out _ _ True.intro (fun hHeld => ?_)
          clear hK K
          try simp only [Act.put, List.setIfInBounds_toArray, List.set_cons_zero, List.set_cons_succ, List.getElem_toArray, List.getElem_cons_zero, List.getElem_cons_succ]
          replace KW := hik (KW.out.trans kk)
          replace XR := hik (rowIs_keep XR.out kk)
          clear he kk
          refine wpAnyH_take (i := 5) (v := ?_) rfl (by kernel_rfl) (by kernel_rfl) (by kernel_rfl) (fun _ _ _ h => h) (Or.inl ⟨by rfl, ?_⟩) (by assumption) ?_
          rotate_left 1
          · (intro w' hSw; (try dsimp only at hSw); go_simp; try with_reducible rfl)
          try simp only [Act.put, List.setIfInBounds_toArray, List.set_cons_zero, List.set_cons_succ, List.getElem_toArray, List.getElem_cons_zero, List.getElem_cons_succ]
          refine wpAnyH_ready (rs := [7]) (by kernel_rfl) (by simp) ?_
          refine AllReadyH.cons rfl (fun K hK => ?_) AllReadyH.nil
          have o0 := XR.out.cell (i := 0) (by omega)
          have o1 := XR.out.cell (i := 1) (by omega)
          have v0 := XR.out.frozen 0
          have v1 := XR.out.frozen 1
          simp only [List.getElem_toArray, List.getElem_cons_zero, List.getElem_cons_succ]
          go_simp
          refine hK.out _ _ True.intro (fun hHeld => ?_)
          clear hK K
          try simp only [Act.put, List.setIfInBounds_toArray, List.set_cons_zero, List.set_cons_succ, List.getElem_toArray, List.getElem_cons_zero, List.getElem_cons_succ]
          refine wpAnyH_done (by kernel_rfl) ?_ _
          go_wp2_with fail
          go_meet
          case rel => exact ⟨W1.heap.size, rfl, row2_set XR.out _ _, XL.out, row2_other (rowIs_keep R0.out KW.out) (by have := XL.out; omega) _ _, row2_other (rowIs_keep R1.out KW.out) (by have := XL.out; omega) _ _, chg2_set (G.out.trans KW.out) _ (fun l => absurd l (by have := XL.out; omega)) _ _⟩
      · refine AllReadyH.cons rfl (fun K hK => ?_) AllReadyH.nil
        simp only [List.getElem_toArray, List.getElem_cons_zero, List.getElem_cons_succ]
        go_simp
        refine hK.out _ _ True.intro (fun hHeld => ?_)
        clear hK K
        try simp only [Act.put, List.setIfInBounds_toArray, List.set_cons_zero, List.set_cons_succ, List.getElem_toArray, List.getElem_cons_zero, List.getElem_cons_succ]
        have XR : Hid ((wc.drew.alloc (.cells #[.int .i64 0, .int .i64 0] 31)).rowIs wc.heap.size 31 2 (pi2 0 0)) := hik (row2_new wc.drew (.int .i64 0) (.int .i64 0) 31)
        have XL := hik (show w.heap.size + 2 ≤ wc.heap.size by have := L1.out; have := KW.out.size; first | omega | (simp at this; omega))
        replace KW := hik (KW.out.alloc (.cells #[.int .i64 0, .int .i64 0] 31))
        refine wpAnyH_ready (rs := [1]) (by kernel_rfl) (by simp) ?_
        refine AllReadyH.cons rfl (fun K hK => ?_) AllReadyH.nil
        refine stepL_callN 160 #[.tmp 15] #[22] (by rfl) (by rfl) #[.slice (some ⟨xb, 0, none⟩) 32 cap0] (by simp only [List.map_toArray, List.map_cons, List.map_nil]; rfl) (run_go Tryz.func160 (by kernel_rfl) (by kernel_rfl) _ _) (longWord_any xb 0 32 cap0 0 (zs h) _ (hik (fun j hj => KW.out.see (HL.out (0 + j) (by omega)))) HB (by omega) (by have := HLE.out; omega) (by omega) (by have := HCM.out; omega)) ?_
        rintro e W1 ⟨he, kk⟩
        have he : e = .returned (.int .i64 x) := by rw [HX.out]; exact he
        refine ⟨_, he, ?_⟩
        refine hK.out _ _ True.intro (fun hHeld => ?_)
        clear hK K
        try simp only [Act.put, List.setIfInBounds_toArray, List.set_cons_zero, List.set_cons_succ, List.getElem_toArray, List.getElem_cons_zero, List.getElem_cons_succ]
        replace KW := hik (KW.out.trans kk)
        replace XR := hik (rowIs_keep XR.out kk)
        clear he kk
        refine wpAnyH_ready (rs := [4]) (by kernel_rfl) (by simp) ?_
        refine AllReadyH.cons rfl (fun K hK => ?_) AllReadyH.nil
        refine stepL_callN 160 #[.tmp 18] #[22] (by rfl) (by rfl) #[.slice (some ⟨xb, 8, none⟩) (32 - 8) (cap0 - 8)] (by simp only [List.map_toArray, List.map_cons, List.map_nil]; rfl) (run_go Tryz.func160 (by kernel_rfl) (by kernel_rfl) _ _) (longWord_any xb 8 (32 - 8) (cap0 - 8) 8 (zs h) _ (hik (fun j hj => KW.out.see (HL.out (8 + j) (by omega)))) HB (by omega) (by have := HLE.out; omega) (by omega) (by have := HCM.out; omega)) ?_
        rintro e W2 ⟨he, kk⟩
        have he : e = .returned (.int .i64 y) := by rw [HY.out]; exact he
        refine ⟨_, he, ?_⟩
        refine hK.out _ _ True.intro (fun hHeld => ?_)
        clear hK K
        try simp only [Act.put, List.setIfInBounds_toArray, List.set_cons_zero, List.set_cons_succ, List.getElem_toArray, List.getElem_cons_zero, List.getElem_cons_succ]
        replace KW := hik (KW.out.trans kk)
        replace XR := hik (rowIs_keep XR.out kk)
        clear he kk
        refine wpAnyH_take (i := 5) (v := ?_) rfl (by kernel_rfl) (by kernel_rfl) (by kernel_rfl) (fun _ _ _ h => h) (Or.inl ⟨by rfl, ?_⟩) (by assumption) ?_
        rotate_left 1
        · (intro w' hSw; (try dsimp only at hSw); go_simp; try with_reducible rfl)
        try simp only [Act.put, List.setIfInBounds_toArray, List.set_cons_zero, List.set_cons_succ, List.getElem_toArray, List.getElem_cons_zero, List.getElem_cons_succ]
        refine wpAnyH_ready (rs := [7]) (by kernel_rfl) (by simp) ?_
        refine AllReadyH.cons rfl (fun K hK => ?_) AllReadyH.nil
        have o0 := XR.out.cell (i := 0) (by omega)
        have o1 := XR.out.cell (i := 1) (by omega)
        have v0 := XR.out.frozen 0
        have v1 := XR.out.frozen 1
        simp only [List.getElem_toArray, List.getElem_cons_zero, List.getElem_cons_succ]
        go_simp
        refine hK.out _ _ True.intro (fun hHeld => ?_)
        clear hK K
        try simp only [Act.put, List.setIfInBounds_toArray, List.set_cons_zero, List.set_cons_succ, List.getElem_toArray, List.getElem_cons_zero, List.getElem_cons_succ]
        refine wpAnyH_done (by kernel_rfl) ?_ _
        go_wp2_with fail
        go_meet
        case rel => exact ⟨wc.heap.size, rfl, row2_set XR.out _ _, XL.out, row2_other (rowIs_keep R0.out KW.out) (by have := XL.out; omega) _ _, row2_other (rowIs_keep R1.out KW.out) (by have := XL.out; omega) _ _, chg2_set (G.out.trans KW.out) _ (fun l => absurd l (by have := XL.out; omega)) _ _⟩
    case rest =>
      obtain ⟨X, rfl, rx, hX, r0, r1, hg⟩ := hcut
      have G9 := hik hg
      have R9 := hik r1
      have e0 : _ = some (Value.int .i64 x) := rx.cell (i := 0) (by omega)
      have e1 : _ = some (Value.int .i64 y) := rx.cell (i := 1) (by omega)
      have s0 : _ = some (Value.string st) := r0.cell (i := 0) (by omega)
      have s1 : _ = some (Value.int .i64 ct) := r0.cell (i := 1) (by omega)
      have f0 : _ = some (Value.int .i64 0) := r1.cell (i := 0) (by omega)
      have f1 : _ = some (Value.int .i64 0) := r1.cell (i := 1) (by omega)
      have z0 := r1.frozen 0
      have z1 := r1.frozen 1
      have n1 : ¬ X = w.heap.size + 1 := by omega
      have n2 : ¬ w.heap.size + 1 = X := by omega
      clear rx r0 r1 hg R0 R1 G HL HB L1 hX
      go_wp2
      go_region
      go_wp2
      have R8 : Hid (wc.drew.rowIs (w.heap.size + 1) 31 2 (pi2 0 0)) := hik R9.out.drew
      exact bodyPost_ret (v := .tuple #[.agg #[.int .i64 x, .int .i64 y], .iface 164 (.agg #[.string st, .int .i64 (ct + 1)])]) (by simp [results, Tryz.results158, go_sem, row2_s0 R9.out (.int .i64 x), row2_s1 R9.out (.int .i64 x) (.int .i64 y)]) rfl ⟨by rw [EA.out, EB.out], (chg2_set G9.out _ (fun l => absurd l (by simp)) _ _).drew⟩

end Go.Proofs.YtgiefpipflcbgadGreatDoor

namespace Go.Proofs.YtgiefpipflcbgadGreatDoor
open Go.ChangeShapes Go.WideShapes Go.ChangeAt Go.RowKit
set_option linter.unusedVariables false
set_option maxRecDepth 100000
set_option linter.unusedSimpArgs false

set_option maxHeartbeats 2000000 in
theorem scriptDraw_any (c : Option Addr) (len cap m : Nat) (at' : Int) (f g : Nat → Int) (w : World) (h : Hid (PairV w c len f g)) (hm : m < len) (hl : len ≤ 64) (a0 : 0 ≤ at') (a1 : at' ≤ 1000000) (hmod : at'.tmod (len : Int) = (m : Int)) :
    Calls Tryz.prog 163 #[.agg #[.slice c len cap, .int .i64 at']] w fun e w' => e = .returned (.tuple #[.agg #[.int .i64 (f m), .int .i64 (g m)], .iface 166 (.agg #[.slice c len cap, .int .i64 (at' + 1)])]) ∧ Chg nob w w' := by
  obtain ⟨xb, xo, rfl, hxb, e1, e2⟩ := h.out m hm
  have hl0 : 0 < (len : Int) := by omega
  have hne : ¬ (len : Int) = 0 := by omega
  have hml : (m : Int) < (len : Int) := by omega
  have hn0 : ¬ len = 0 := by omega
  have hp0 : 0 < len := by omega
  go_enter Tryz.func163, Tryz.ntmps163
  go_wp2
  go_region
  go_wp2
  exact bodyPost_ret (v := .tuple #[.agg #[.int .i64 (f m), .int .i64 (g m)], .iface 166 (.agg #[.slice (some ⟨xb, xo, none⟩) len cap, .int .i64 (at' + 1)])]) (by simp [results, Tryz.results163, go_sem]) rfl ⟨rfl, (by repeat (first | with_reducible exact Chg.refl _ _ | with_reducible refine Chg.alloc ?_ _ | with_reducible refine Chg.drewN ?_ _ | with_reducible refine Chg.drew ?_ | with_reducible refine Chg.setCell ?_ (fun l => absurd l (by simp <;> omega)) _))⟩

/-- Who draws, as a value. -/
def whoV (c : Option Addr) (len cap : Nat) (at' : Int) (st : ByteArray) (ct : Int) : Value := if len = 0 then .iface 164 (.agg #[.string st, .int .i64 ct]) else .iface 166 (.agg #[.slice c len cap, .int .i64 at'])

set_option maxHeartbeats 1000000 in
theorem whoDraws_any (c : Option Addr) (len cap : Nat) (at' : Int) (st : ByteArray) (ct : Int) (w : World) (hl : len ≤ 64) :
    Calls Tryz.prog 130 #[.agg #[.slice c len cap, .int .i64 at', .string st, .int .i64 ct]] w fun e w' => e = .returned (whoV c len cap at' st ct) ∧ Chg nob w w' := by
  by_cases h0 : len = 0
  · subst h0
    go_enter Tryz.func130, Tryz.ntmps130
    go_wp2
    go_ret
    exact ⟨rfl, (Chg.refl _ _).alloc _⟩
  · have h1 : ((len : Int) == 0) = false := by simp; omega
    have E := hik (show whoV c len cap at' st ct = .iface 166 (.agg #[.slice c len cap, .int .i64 at']) from if_neg h0)
    go_enter Tryz.func130, Tryz.ntmps130
    go_wp2
    go_ret
    exact ⟨by rw [E.out]; rfl, (Chg.refl _ _).alloc _⟩

/-- What the switch on the sort of a drawer finds. -/
theorem ta_ss (v : Value) (w : World) : (Instr.typeAssert (.iface 164 v) 154 164 true).run Tryz.prog w = .ok (.tuple #[v, .bool true]) w := by kernel_rfl
theorem ta_cs (v : Value) (w : World) : (Instr.typeAssert (.iface 166 v) 154 164 true).run Tryz.prog w = .ok (.tuple #[.agg #[.string ⟨#[]⟩, .int .i64 0], .bool false]) w := by kernel_rfl
theorem ta_cc (v : Value) (w : World) : (Instr.typeAssert (.iface 166 v) 154 166 true).run Tryz.prog w = .ok (.tuple #[v, .bool true]) w := by kernel_rfl

set_option maxHeartbeats 2000000 in
theorem drawnTo_any (c : Option Addr) (len cap : Nat) (f g : Nat → Int) (at' : Int) (st : ByteArray) (ct : Int) (a2 c2 : Int) (w : World) (h : Hid (PairV w c len f g)) (hl : len ≤ 64) :
    Calls Tryz.prog 131 #[.agg #[.slice c len cap, .int .i64 at', .string st, .int .i64 ct], whoV c len cap a2 st c2] w fun e w' => SrAns w len f g (if len = 0 then at' else a2) st (if len = 0 then c2 else ct) e w' := by
  have t1 := ta_ss
  have t2 := ta_cs
  have t3 := ta_cc
  by_cases h0 : len = 0
  · subst h0
    rw [if_pos rfl, if_pos rfl, show whoV c 0 cap a2 st c2 = .iface 164 (.agg #[.string st, .int .i64 c2]) from rfl]
    go_enter Tryz.func131, Tryz.ntmps131
    go_wp2_with fail
    refine (copied_any c 0 cap f g at' st c2 _ (hik (h.out.keep ((((Chg.refl nob w).alloc _).alloc _).alloc _))) (by omega)).mono ?_
    rintro e W3 ⟨c3, cap3, rfl, o3, k3⟩
    have G3 := hik (((((Chg.refl nob w).alloc _).alloc _).alloc _).trans k3)
    have R1 := hik (rowIs_keep (World.rowIs.alloc (row4_new (w.alloc (.cells #[.slice c 0 cap, .int .i64 at', .string st, .int .i64 c2] 28)) (.slice none 0 0) (.int .i64 0) (.string ⟨#[]⟩) (.int .i64 0) 28) (.cells #[.string st, .int .i64 c2] 164)) k3)
    have R3 : Hid (W3.rowIs (w.heap.size + 1) 28 4 (pv4 (.slice none 0 0) (.int .i64 0) (.string ⟨#[]⟩) (.int .i64 0))) := hik (by simpa using R1.out)
    have O3 := hik o3
    clear k3 o3 R1 t1 t2 t3
    have hz3 : w.heap.size + 1 < W3.heap.size := R3.out.lt
    have y0 := R3.out.cell (i := 0) (by omega)
    have v0 := R3.out.frozen 0
    have y1 := R3.out.cell (i := 1) (by omega)
    have v1 := R3.out.frozen 1
    have y2 := R3.out.cell (i := 2) (by omega)
    have v2 := R3.out.frozen 2
    have y3 := R3.out.cell (i := 3) (by omega)
    have v3 := R3.out.frozen 3
    go_wp2
    exact bodyPost_ret (v := .agg #[.slice c3 0 cap3, .int .i64 at', .string st, .int .i64 c2]) (by simp [results, Tryz.results131, go_sem, row4_s0 R3.out (.slice c3 0 cap3), row4_s1 R3.out (.slice c3 0 cap3) (.int .i64 at'), row4_s2 R3.out (.slice c3 0 cap3) (.int .i64 at') (.string st), row4_s3 R3.out (.slice c3 0 cap3) (.int .i64 at') (.string st) (.int .i64 c2)]) rfl ⟨_, _, rfl, ((O3.out.chg (P := fun b => b = w.heap.size + 1) (chg4_set (Chg.refl (fun b => b = w.heap.size + 1) W3) (w.heap.size + 1) (fun _ => rfl) _ _ _ _) (fun b hb _ hp => (by simp at hb; omega))).low (B' := w.heap.size) (by simp; omega)), chg4_set G3.out _ (fun l => absurd l (by simp)) _ _ _ _⟩
  · rw [if_neg h0, if_neg h0, show whoV c len cap a2 st c2 = .iface 166 (.agg #[.slice c len cap, .int .i64 a2]) from if_neg h0]
    go_enter Tryz.func131, Tryz.ntmps131
    go_wp2_with fail
    refine (copied_any c len cap f g a2 st ct _ (hik (h.out.keep ((((Chg.refl nob w).alloc _).alloc _).alloc _))) (by omega)).mono ?_
    rintro e W3 ⟨c3, cap3, rfl, o3, k3⟩
    have G3 := hik (((((Chg.refl nob w).alloc _).alloc _).alloc _).trans k3)
    have R1 := hik (rowIs_keep (World.rowIs.alloc (row4_new (w.alloc (.cells #[.slice c len cap, .int .i64 a2, .string st, .int .i64 ct] 28)) (.slice none 0 0) (.int .i64 0) (.string ⟨#[]⟩) (.int .i64 0) 28) (.cells #[.slice c len cap, .int .i64 a2] 166)) k3)
    have R3 : Hid (W3.rowIs (w.heap.size + 1) 28 4 (pv4 (.slice none 0 0) (.int .i64 0) (.string ⟨#[]⟩) (.int .i64 0))) := hik (by simpa using R1.out)
    have O3 := hik o3
    clear k3 o3 R1 t1 t2 t3
    have hz3 : w.heap.size + 1 < W3.heap.size := R3.out.lt
    have y0 := R3.out.cell (i := 0) (by omega)
    have v0 := R3.out.frozen 0
    have y1 := R3.out.cell (i := 1) (by omega)
    have v1 := R3.out.frozen 1
    have y2 := R3.out.cell (i := 2) (by omega)
    have v2 := R3.out.frozen 2
    have y3 := R3.out.cell (i := 3) (by omega)
    have v3 := R3.out.frozen 3
    go_wp2
    exact bodyPost_ret (v := .agg #[.slice c3 len cap3, .int .i64 a2, .string st, .int .i64 ct]) (by simp [results, Tryz.results131, go_sem, row4_s0 R3.out (.slice c3 len cap3), row4_s1 R3.out (.slice c3 len cap3) (.int .i64 a2), row4_s2 R3.out (.slice c3 len cap3) (.int .i64 a2) (.string st), row4_s3 R3.out (.slice c3 len cap3) (.int .i64 a2) (.string st) (.int .i64 ct)]) rfl ⟨_, _, rfl, ((O3.out.chg (P := fun b => b = w.heap.size + 1) (chg4_set (Chg.refl (fun b => b = w.heap.size + 1) W3) (w.heap.size + 1) (fun _ => rfl) _ _ _ _) (fun b hb _ hp => (by simp at hb; omega))).low (B' := w.heap.size) (by simp; omega)), chg4_set G3.out _ (fun l => absurd l (by simp)) _ _ _ _⟩

end Go.Proofs.YtgiefpipflcbgadGreatDoor

namespace Go.Proofs.YtgiefpipflcbgadGreatDoor
open Go.ChangeShapes Go.WideShapes Go.ChangeAt Go.RowKit
set_option linter.unusedVariables false
set_option maxRecDepth 100000
set_option linter.unusedSimpArgs false

/-- A source of the call's own, and elements. -/
def SLAns (w : World) (n : Nat) (f g : Nat → Int) (at' : Int) (st : ByteArray) (ct : Int) (m : Nat) (p q : Nat → Int) (e : Ending) (w' : World) : Prop :=
  ∃ (c : Option Addr) (cap : Nat) (d : Option Addr) (cap' : Nat), e = .returned (.tuple #[.agg #[.slice c n cap, .int .i64 at', .string st, .int .i64 ct], .slice d m cap']) ∧ OwnE w' w.heap.size c n f g ∧ OwnE w' w.heap.size d m p q ∧ Chg nob w w'

theorem row2_at {W : World} {g g' : Nat} {t : TypeId} {n : Nat} {f : Nat → Value} (h : W.rowIs g' t n f) (hne : g' ≠ g) (j : Nat) (u v : Value) : ((W.setCell ⟨g, j, none⟩ u).setCell ⟨g, j + 1, none⟩ v).rowIs g' t n f :=
  (h.setOther (a := ⟨g, j, none⟩) hne u).setOther (a := ⟨g, j + 1, none⟩) hne v
/-- The methods behind the interface. -/
theorem md_s (nm : String) (v : Value) (w : World) (hnm : nm = ((Tryz.prog.info? 164).map (fun i => (i.methods.map (fun m => m.name)).getD 0 "")).getD "") : (method 285 164 v nm).run Tryz.prog w = .ok (158, v) w := by
  subst hnm
  kernel_rfl
theorem md_c (nm : String) (v : Value) (w : World) (hnm : nm = ((Tryz.prog.info? 164).map (fun i => (i.methods.map (fun m => m.name)).getD 0 "")).getD "") : (method 285 166 v nm).run Tryz.prog w = .ok (163, v) w := by
  subst hnm
  kernel_rfl

set_option maxHeartbeats 2000000 in
theorem drawing_any (c : Option Addr) (len cap n : Nat) (f g : Nat → Int) (at' : Int) (st : ByteArray) (ct : Int) (w : World) (htb : Hid (Tabs w)) (h : Hid (PairV w c len f g)) (hl : len ≤ 64) (hst : st.size = 32) (a0 : 0 ≤ at') (a1 : at' + n ≤ 1000000) (c0 : 0 ≤ ct) (c1 : ct + n ≤ 1000000) (hn : n ≤ 100) :
    Calls Tryz.prog 121 #[.agg #[.slice c len cap, .int .i64 at', .string st, .int .i64 ct], .int .i64 n] w fun e w' => SLAns w len f g (dnA len at' n) st (dnC len ct n) n (drE f len at' st ct) (drF g len at' st ct) e w' := by
  obtain ⟨i0, hi, hz0, hz1, hz2⟩ := info_parts infoExt
  have HI := hik hi
  have HZ0 := hik hz0
  have HZ1 := hik hz1
  have hb : i0.bytes * n ≤ 281474976710656 := by rw [hz2]; omega
  clear hi hz0 hz1 hz2
  have HA := hik (show 0 ≤ at' ∧ at' + n ≤ 1000000 ∧ 0 ≤ ct ∧ ct + n ≤ 1000000 from ⟨a0, a1, c0, c1⟩)
  clear a0 a1 c0 c1
  go_enter Tryz.func121, Tryz.ntmps121
  go_wp2_with (at_make; refine wpList_make_pairs _ rfl (.tmp 9) (.tmp 9) 26 rfl 31 i0 Tryz.underlying26 HI.out HZ0.out HZ1.out .i64 .i64 _ _ n rfl rfl rfl rfl hb (by omega) ?_)
  intro W0 hr hk
  have R0 : Hid (W0.rowIs (w.heap.size + 1 + 1) 31 (n * 2) (cpy (drE f len at' st ct) (drF g len at' st ct) 0)) := hik (World.rowIs.congr (by simpa using hr) (fun i _ => by simp [cpy, pf]))
  have G0 := hik ((((Chg.refl nob w).alloc _).alloc _).trans hk)
  have A0 := hik (rowIs_keep (World.rowIs.alloc (row4_new w (.slice c len cap) (.int .i64 at') (.string st) (.int .i64 ct) 28) (.cells #[.slice none 0 0, .int .i64 0, .string ⟨#[]⟩, .int .i64 0] 28)) hk)
  have Z0 : Hid (W0.rowIs (w.heap.size + 1) 28 4 (pv4 (.slice none 0 0) (.int .i64 0) (.string ⟨#[]⟩) (.int .i64 0))) := hik (by simpa using rowIs_keep (row4_new (w.alloc (.cells #[.slice c len cap, .int .i64 at', .string st, .int .i64 ct] 28)) (.slice none 0 0) (.int .i64 0) (.string ⟨#[]⟩) (.int .i64 0) 28) hk)
  clear hb HI HZ0 HZ1 hr hk
  have x0 : (W0).cell? ⟨w.heap.size, 0, none⟩ = some (.slice c len cap) := A0.out.cell (by omega)
  have x1 : (W0).cell? ⟨w.heap.size, 1, none⟩ = some (.int .i64 at') := A0.out.cell (by omega)
  have x2 : (W0).cell? ⟨w.heap.size, 2, none⟩ = some (.string st) := A0.out.cell (by omega)
  have x3 : (W0).cell? ⟨w.heap.size, 3, none⟩ = some (.int .i64 ct) := A0.out.cell (by omega)
  go_wp2_with fail
  refine (whoDraws_any c len cap at' st ct _ hl).mono ?_
  rintro e W1 ⟨rfl, k1⟩
  have R1 := hik (rowIs_keep R0.out k1)
  have G1 := hik (G0.out.trans k1)
  have A1 := hik (rowIs_keep A0.out k1)
  have Z1 := hik (rowIs_keep Z0.out k1)
  clear k1 R0 G0 A0 Z0 x0 x1 x2 x3
  go_wp2
  go_loopw [7, 15] (fun d v W => ∃ k : Nat, k ≤ n ∧ v = .int .i64 k ∧ d = whoV c len cap (dnA len at' k) st (dnC len ct k) ∧ Hid (W.rowIs (w.heap.size + 1 + 1) 31 (n * 2) (cpy (drE f len at' st ct) (drF g len at' st ct) k)) ∧ Hid (W.rowIs w.heap.size 28 4 (pv4 (.slice c len cap) (.int .i64 at') (.string st) (.int .i64 ct))) ∧ Hid (W.rowIs (w.heap.size + 1) 28 4 (pv4 (.slice none 0 0) (.int .i64 0) (.string ⟨#[]⟩) (.int .i64 0))) ∧ Hid (Chg nob w W)) (fun _ v _ => n - (intOf v).toNat)
  case atStart => exact ⟨0, Nat.zero_le _, rfl, by rw [dnA_zero, dnC_zero], R1, A1, Z1, G1⟩
  case round =>
    clear R1 A1 Z1 G1
    obtain ⟨k, hk, rfl, rfl, HR, HA2, HZ, HG⟩ := hrel
    by_cases hlt : k < n
    · have hlt' : (k : Int) < (n : Int) := by omega
      have k0 : (0 : Int) ≤ (k : Int) := by omega
      by_cases h0 : len = 0
      · subst h0
        rw [show whoV c 0 cap (dnA 0 at' k) st (dnC 0 ct k) = .iface 164 (.agg #[.string st, .int .i64 (dnC 0 ct k)]) from rfl]
        have EA := hik (show drA st (dnC 0 ct k) = drE f 0 at' st ct k from rfl)
        have EB := hik (show drB st (dnC 0 ct k) = drF g 0 at' st ct k from rfl)
        have EC := hik (show dnC 0 ct k + 1 = dnC 0 ct (k + 1) by unfold dnC; simp; omega)
        go_wp2_with fail
        rw [md_s]
        case hnm => kernel_rfl
        go_wp2_with fail
        refine (spongeDraw_any st (dnC 0 ct k) _ (hik (htb.out.keep HG.out)) hst (by have := HA.out; have := dnC_le 0 ct k; omega) (by have := HA.out; have := dnC_le 0 ct k; omega)).mono ?_
        rintro e W2 ⟨he, k2⟩
        rw [EA.out, EB.out, EC.out] at he
        subst he
        have HR2 := hik (rowIs_keep HR.out k2)
        have HA3 := hik (rowIs_keep HA2.out k2)
        have HZ2 := hik (rowIs_keep HZ.out k2)
        have HG2 := hik (HG.out.trans k2)
        have g0 := HR2.out.cell (i := k * 2) (by omega)
        have g1 := HR2.out.cell (i := k * 2 + 1) (by omega)
        have f0 := HR2.out.frozen (k * 2)
        have f1 := HR2.out.frozen (k * 2 + 1)
        clear k2 HR HA2 HZ HG
        go_wp2
        have NR := hik (cpy_set HR2.out)
        have NA := hik (row2_at (HA3.out) (show w.heap.size ≠ w.heap.size + 1 + 1 by omega) (k * 2) (.int .i64 (drE f 0 at' st ct k)) (.int .i64 (drF g 0 at' st ct k)))
        have NZ := hik (row2_at (HZ2.out) (show w.heap.size + 1 ≠ w.heap.size + 1 + 1 by omega) (k * 2) (.int .i64 (drE f 0 at' st ct k)) (.int .i64 (drF g 0 at' st ct k)))
        have NG := hik ((HG2.out.setCell (p := ⟨w.heap.size + 1 + 1, k * 2, none⟩) (fun l => absurd l (by simp; omega)) (.int .i64 (drE f 0 at' st ct k))).setCell (p := ⟨w.heap.size + 1 + 1, k * 2 + 1, none⟩) (fun l => absurd l (by simp; omega)) (.int .i64 (drF g 0 at' st ct k)))
        clear HR2 HA3 HZ2 HG2
        go_roundw
        case rel => exact ⟨k + 1, by omega, by go_num, rfl, NR, NA, NZ, NG⟩
        case measure => simp [intOf]; omega
      · have WE := hik (show whoV c len cap (dnA len at' (k + 1)) st (dnC len ct (k + 1)) = .iface 166 (.agg #[.slice c len cap, .int .i64 (dnA len at' (k + 1))]) from if_neg h0)
        rw [show whoV c len cap (dnA len at' k) st (dnC len ct k) = .iface 166 (.agg #[.slice c len cap, .int .i64 (dnA len at' k)]) from if_neg h0]
        have hpos : 0 < len := by omega
        have eA : dnA len at' k = at' + k := by unfold dnA; rw [if_pos hpos]
        have EA := hik (show f ((dnA len at' k).toNat % len) = drE f len at' st ct k by unfold drE; rw [if_pos hpos, eA])
        have EB := hik (show g ((dnA len at' k).toNat % len) = drF g len at' st ct k by unfold drF; rw [if_pos hpos, eA])
        have EC := hik (show dnA len at' k + 1 = dnA len at' (k + 1) by unfold dnA; rw [if_pos hpos, if_pos hpos]; omega)
        have TM := hik (tmod_nat (dnA len at' k) len (by have := HA.out; rw [eA]; omega) hpos)
        have HD := hik (show 0 ≤ dnA len at' k ∧ dnA len at' k ≤ 1000000 by have := HA.out; rw [eA]; omega)
        clear eA
        go_wp2_with fail
        rw [md_c]
        case hnm => kernel_rfl
        go_wp2_with fail
        refine (scriptDraw_any c len cap ((dnA len at' k).toNat % len) (dnA len at' k) f g _ (hik (h.out.keep HG.out)) (Nat.mod_lt _ hpos) hl HD.out.1 HD.out.2 TM.out).mono ?_
        rintro e W2 ⟨he, k2⟩
        rw [EA.out, EB.out, EC.out] at he
        subst he
        have HR2 := hik (rowIs_keep HR.out k2)
        have HA3 := hik (rowIs_keep HA2.out k2)
        have HZ2 := hik (rowIs_keep HZ.out k2)
        have HG2 := hik (HG.out.trans k2)
        have g0 := HR2.out.cell (i := k * 2) (by omega)
        have g1 := HR2.out.cell (i := k * 2 + 1) (by omega)
        have f0 := HR2.out.frozen (k * 2)
        have f1 := HR2.out.frozen (k * 2 + 1)
        clear k2 HR HA2 HZ HG
        go_wp2
        have NR := hik (cpy_set HR2.out)
        have NA := hik (row2_at (HA3.out) (show w.heap.size ≠ w.heap.size + 1 + 1 by omega) (k * 2) (.int .i64 (drE f len at' st ct k)) (.int .i64 (drF g len at' st ct k)))
        have NZ := hik (row2_at (HZ2.out) (show w.heap.size + 1 ≠ w.heap.size + 1 + 1 by omega) (k * 2) (.int .i64 (drE f len at' st ct k)) (.int .i64 (drF g len at' st ct k)))
        have NG := hik ((HG2.out.setCell (p := ⟨w.heap.size + 1 + 1, k * 2, none⟩) (fun l => absurd l (by simp; omega)) (.int .i64 (drE f len at' st ct k))).setCell (p := ⟨w.heap.size + 1 + 1, k * 2 + 1, none⟩) (fun l => absurd l (by simp; omega)) (.int .i64 (drF g len at' st ct k)))
        clear HR2 HA3 HZ2 HG2
        go_roundw
        case rel => exact ⟨k + 1, by omega, by go_num, WE.out.symm, NR, NA, NZ, NG⟩
        case measure => simp [intOf]; omega
    · obtain rfl : k = n := by omega
      have hz : w.heap.size < wr.heap.size := HA2.out.lt
      have x0 : (wr).cell? ⟨w.heap.size, 0, none⟩ = some (.slice c len cap) := HA2.out.cell (by omega)
      have x1 : (wr).cell? ⟨w.heap.size, 1, none⟩ = some (.int .i64 at') := HA2.out.cell (by omega)
      have x2 : (wr).cell? ⟨w.heap.size, 2, none⟩ = some (.string st) := HA2.out.cell (by omega)
      have x3 : (wr).cell? ⟨w.heap.size, 3, none⟩ = some (.int .i64 ct) := HA2.out.cell (by omega)
      go_wp2_with fail
      refine (drawnTo_any c len cap f g at' st ct (dnA len at' k) (dnC len ct k) _ (hik (h.out.keep HG.out)) hl).mono ?_
      rintro e W2 ⟨c2, cap2, he, o2, k2⟩
      have EA : (if len = 0 then at' else dnA len at' k) = dnA len at' k := by unfold dnA; by_cases h0 : len = 0 <;> simp [h0]
      have EC : (if len = 0 then dnC len ct k else ct) = dnC len ct k := by unfold dnC; by_cases h0 : len = 0 <;> simp [h0]
      rw [EA, EC] at he
      subst he
      have R2 := hik (rowIs_keep HR.out k2)
      have Z2 := hik (rowIs_keep HZ.out k2)
      have G2 := hik (HG.out.trans k2)
      have O2 := hik o2
      have LW := hik (show w.heap.size + 1 + 1 < wr.heap.size from HR.out.lt)
      clear k2 o2 EA EC x0 x1 x2 x3 hz HR HA2 HZ HG
      have hz3 : w.heap.size + 1 < W2.heap.size := Z2.out.lt
      have y0 := Z2.out.cell (i := 0) (by omega)
      have y1 := Z2.out.cell (i := 1) (by omega)
      have y2 := Z2.out.cell (i := 2) (by omega)
      have y3 := Z2.out.cell (i := 3) (by omega)
      have v0 := Z2.out.frozen 0
      have v1 := Z2.out.frozen 1
      have v2 := Z2.out.frozen 2
      have v3 := Z2.out.frozen 3
      go_wp2
      have RL := hik (row4_other (g := w.heap.size + 1) R2.out (by omega) (.slice c2 len cap2) (.int .i64 (dnA len at' k)) (.string st) (.int .i64 (dnC len ct k)))
      exact bodyPost_ret (v := .tuple #[.agg #[.slice c2 len cap2, .int .i64 (dnA len at' k), .string st, .int .i64 (dnC len ct k)], .slice (some ⟨w.heap.size + 1 + 1, 0, none⟩) k k]) (by simp [results, Tryz.results121, go_sem, row4_s0 Z2.out (.slice c2 len cap2), row4_s1 Z2.out (.slice c2 len cap2) (.int .i64 (dnA len at' k)), row4_s2 Z2.out (.slice c2 len cap2) (.int .i64 (dnA len at' k)) (.string st), row4_s3 Z2.out (.slice c2 len cap2) (.int .i64 (dnA len at' k)) (.string st) (.int .i64 (dnC len ct k))]) rfl ⟨_, _, _, _, rfl, ((O2.out.chg (P := fun b => b = w.heap.size + 1) (chg4_set (Chg.refl (fun b => b = w.heap.size + 1) W2) (w.heap.size + 1) (fun _ => rfl) _ _ _ _) (fun b hb _ hp => (by have := LW.out; omega))).low (B' := w.heap.size) (by have := LW.out; omega)), OwnE.of_row (RL.out.congr (fun i hi => by simp [cpy, hi])) (by omega), chg4_set G2.out _ (fun l => absurd l (by simp)) _ _ _ _⟩

end Go.Proofs.YtgiefpipflcbgadGreatDoor

namespace Go.Proofs.YtgiefpipflcbgadGreatDoor
open Go.ChangeShapes Go.WideShapes Go.ChangeAt Go.RowKit
set_option linter.unusedVariables false
set_option maxRecDepth 100000
set_option linter.unusedSimpArgs false

/-- A source of the call's own, elements, and a code. -/
def STAns (w : World) (n : Nat) (f g : Nat → Int) (at' : Int) (st : ByteArray) (ct : Int) (m : Nat) (p q : Nat → Int) (code : Int) (e : Ending) (w' : World) : Prop :=
  ∃ (c : Option Addr) (cap : Nat) (d : Option Addr) (cap' : Nat), e = .returned (.tuple #[.agg #[.slice c n cap, .int .i64 at', .string st, .int .i64 ct], .slice d m cap', .int .i64 code]) ∧ OwnE w' w.heap.size c n f g ∧ OwnE w' w.heap.size d m p q ∧ Chg nob w w'

set_option maxHeartbeats 1000000 in
theorem drawsLeft_any (c : Option Addr) (len cap : Nat) (f g : Nat → Int) (at' : Int) (st : ByteArray) (ct : Int) (w : World) (a0 : 0 ≤ at') (a1 : at' ≤ 1000000) (c0 : 0 ≤ ct) (c1 : ct ≤ 1000000) :
    Calls Tryz.prog 30 #[.agg #[.slice c len cap, .int .i64 at', .string st, .int .i64 ct]] w fun e w' => (∃ lf : Int, e = .returned (.int .i64 lf) ∧ (lf = 1000000 - at' ∨ lf = 1000000 - ct)) ∧ Chg nob w w' := by
  go_enter Tryz.func30, Tryz.ntmps30
  go_wp2
  all_goals
    go_ret
    exact ⟨⟨_, rfl, by omega⟩, (Chg.refl _ _).alloc _⟩

set_option maxHeartbeats 2000000 in
theorem takeSome_ok (c : Option Addr) (len cap : Nat) (f g : Nat → Int) (at' : Int) (st : ByteArray) (ct : Int) (n : Nat) (w : World) (htb : Hid (Tabs w)) (h : Hid (PairV w c len f g)) (hok : sokb f g len at' st ct = true) (hn : n ≤ 100) (a1 : at' + n ≤ 1000000) (c1 : ct + n ≤ 1000000) :
    Calls Tryz.prog 99 #[.agg #[.slice c len cap, .int .i64 at', .string st, .int .i64 ct], .int .i64 n] w fun e w' => STAns w len f g (dnA len at' n) st (dnC len ct n) n (drE f len at' st ct) (drF g len at' st ct) 0 e w' := by
  obtain ⟨p1, p2, p3, p4, p5⟩ := sokb_parts hok
  have hl : (len : Int) ≤ 9223372036854775807 := by omega
  have hs : (st.size : Int) ≤ 9223372036854775807 := by omega
  have P := hik (sokb_parts hok)
  have b0 : decide ((n : Int) < 0) = false := decide_eq_false (by omega)
  have b1 : decide ((100 : Int) < (n : Int)) = false := decide_eq_false (by omega)
  have HAC := hik (show at' + n ≤ 1000000 ∧ ct + n ≤ 1000000 from ⟨a1, c1⟩)
  have HP := hik (sokb_parts hok)
  clear a1 c1 p3 p5
  go_enter Tryz.func99, Tryz.ntmps99
  go_wp2_with fail
  refine (sourceOK_any c len cap at' st ct f g _ (hik (h.out.keep (((Chg.refl nob w).alloc _).alloc _))) hl hs).mono ?_
  rintro e W1 ⟨he, kk⟩
  have K := hik ((((Chg.refl nob w).alloc _).alloc _).trans kk)
  have s1 := hik K.out.size
  have A := hik (rowIs_keep (World.rowIs.alloc (row4_new w (.slice c len cap) (.int .i64 at') (.string st) (.int .i64 ct) 28) _) kk)
  have RZ : Hid (W1.rowIs (w.heap.size + 1) 28 4 (pv4 (.slice none 0 0) (.int .i64 0) (.string ⟨#[]⟩) (.int .i64 0))) := hik (by simpa using rowIs_keep (row4_new _ (.slice none 0 0) (.int .i64 0) (.string ⟨#[]⟩) (.int .i64 0) 28) kk)
  rw [hok] at he
  subst he
  have G := hik K.out
  have L0 : Hid (w.heap.size + 1 < W1.heap.size) := hik RZ.out.lt
  clear kk K
  have zA : w.heap.size < W1.heap.size := A.out.lt
  have xA0 : W1.cell? ⟨w.heap.size, 0, none⟩ = some (.slice c len cap) := A.out.cell (by omega)
  have xA1 : W1.cell? ⟨w.heap.size, 1, none⟩ = some (.int .i64 at') := A.out.cell (by omega)
  have xA2 : W1.cell? ⟨w.heap.size, 2, none⟩ = some (.string st) := A.out.cell (by omega)
  have xA3 : W1.cell? ⟨w.heap.size, 3, none⟩ = some (.int .i64 ct) := A.out.cell (by omega)
  go_wp2_with fail
  refine (drawsLeft_any c len cap f g at' st ct _ HP.out.2.2.1.1 HP.out.2.2.1.2 HP.out.2.2.2.2.1 HP.out.2.2.2.2.2).mono ?_
  rintro e W2 ⟨⟨lf, he, hlf⟩, kk⟩
  clear zA xA0 xA1 xA2 xA3
  have K := hik ((Chg.refl nob W1).trans kk)
  have s2 := hik K.out.size
  replace G := hik (G.out.trans K.out)
  replace A := hik (rowIs_keep A.out K.out)
  replace RZ := hik (rowIs_keep RZ.out K.out)
  subst he
  have b2 : ¬ lf < (n : Int) := by have := HAC.out; omega
  clear hlf
  clear kk K
  have zA : w.heap.size < W2.heap.size := A.out.lt
  have xA0 : W2.cell? ⟨w.heap.size, 0, none⟩ = some (.slice c len cap) := A.out.cell (by omega)
  have xA1 : W2.cell? ⟨w.heap.size, 1, none⟩ = some (.int .i64 at') := A.out.cell (by omega)
  have xA2 : W2.cell? ⟨w.heap.size, 2, none⟩ = some (.string st) := A.out.cell (by omega)
  have xA3 : W2.cell? ⟨w.heap.size, 3, none⟩ = some (.int .i64 ct) := A.out.cell (by omega)
  go_wp2_with fail
  refine (drawing_any c len cap n f g at' st ct _ (hik (htb.out.keep G.out)) (hik (h.out.keep G.out)) p1 p4 HP.out.2.2.1.1 HAC.out.1 HP.out.2.2.2.2.1 HAC.out.2 hn).mono ?_
  rintro e W3 ⟨c3, cap3, d3, cap3', rfl, o3, q3, kk⟩
  clear zA xA0 xA1 xA2 xA3
  have K := hik ((Chg.refl nob W2).trans kk)
  have s3 := hik K.out.size
  replace G := hik (G.out.trans K.out)
  replace A := hik (rowIs_keep A.out K.out)
  replace RZ := hik (rowIs_keep RZ.out K.out)
  have O3 := hik (o3.low (B' := W2.heap.size) (Nat.le_refl _))
  have D3 := hik (q3.low (B' := W2.heap.size) (Nat.le_refl _))
  clear o3 q3
  clear kk K
  have hz9 : w.heap.size + 1 < W3.heap.size := RZ.out.lt
  have y0 := RZ.out.cell (i := 0) (by omega)
  have v0 := RZ.out.frozen 0
  have y1 := RZ.out.cell (i := 1) (by omega)
  have v1 := RZ.out.frozen 1
  have y2 := RZ.out.cell (i := 2) (by omega)
  have v2 := RZ.out.frozen 2
  have y3 := RZ.out.cell (i := 3) (by omega)
  have v3 := RZ.out.frozen 3
  go_wp2
  have RX : Hid ((((((W3.setCell ⟨w.heap.size + 1, 0, none⟩ (.slice c3 len cap3)).setCell ⟨w.heap.size + 1, 1, none⟩ (.int .i64 (dnA len at' n))).setCell ⟨w.heap.size + 1, 2, none⟩ (.string st)).setCell ⟨w.heap.size + 1, 3, none⟩ (.int .i64 (dnC len ct n))).alloc (.cells #[.slice c3 len cap3, .int .i64 (dnA len at' n), .string st, .int .i64 (dnC len ct n)] 28)).rowIs (w.heap.size + 1) 28 4 (pv4 (.slice c3 len cap3) (.int .i64 (dnA len at' n)) (.string st) (.int .i64 (dnC len ct n)))) := hik (World.rowIs.alloc (row4_set RZ.out _ _ _ _) _)
  have u0 : (((((W3.setCell ⟨w.heap.size + 1, 0, none⟩ (.slice c3 len cap3)).setCell ⟨w.heap.size + 1, 1, none⟩ (.int .i64 (dnA len at' n))).setCell ⟨w.heap.size + 1, 2, none⟩ (.string st)).setCell ⟨w.heap.size + 1, 3, none⟩ (.int .i64 (dnC len ct n))).alloc (.cells #[.slice c3 len cap3, .int .i64 (dnA len at' n), .string st, .int .i64 (dnC len ct n)] 28)).cell? ⟨w.heap.size + 1, 0, none⟩ = some (.slice c3 len cap3) := RX.out.cell (by omega)
  have u1 : (((((W3.setCell ⟨w.heap.size + 1, 0, none⟩ (.slice c3 len cap3)).setCell ⟨w.heap.size + 1, 1, none⟩ (.int .i64 (dnA len at' n))).setCell ⟨w.heap.size + 1, 2, none⟩ (.string st)).setCell ⟨w.heap.size + 1, 3, none⟩ (.int .i64 (dnC len ct n))).alloc (.cells #[.slice c3 len cap3, .int .i64 (dnA len at' n), .string st, .int .i64 (dnC len ct n)] 28)).cell? ⟨w.heap.size + 1, 1, none⟩ = some (.int .i64 (dnA len at' n)) := RX.out.cell (by omega)
  have u2 : (((((W3.setCell ⟨w.heap.size + 1, 0, none⟩ (.slice c3 len cap3)).setCell ⟨w.heap.size + 1, 1, none⟩ (.int .i64 (dnA len at' n))).setCell ⟨w.heap.size + 1, 2, none⟩ (.string st)).setCell ⟨w.heap.size + 1, 3, none⟩ (.int .i64 (dnC len ct n))).alloc (.cells #[.slice c3 len cap3, .int .i64 (dnA len at' n), .string st, .int .i64 (dnC len ct n)] 28)).cell? ⟨w.heap.size + 1, 2, none⟩ = some (.string st) := RX.out.cell (by omega)
  have u3 : (((((W3.setCell ⟨w.heap.size + 1, 0, none⟩ (.slice c3 len cap3)).setCell ⟨w.heap.size + 1, 1, none⟩ (.int .i64 (dnA len at' n))).setCell ⟨w.heap.size + 1, 2, none⟩ (.string st)).setCell ⟨w.heap.size + 1, 3, none⟩ (.int .i64 (dnC len ct n))).alloc (.cells #[.slice c3 len cap3, .int .i64 (dnA len at' n), .string st, .int .i64 (dnC len ct n)] 28)).cell? ⟨w.heap.size + 1, 3, none⟩ = some (.int .i64 (dnC len ct n)) := RX.out.cell (by omega)
  exact bodyPost_ret (v := .tuple #[.agg #[.slice c3 len cap3, .int .i64 (dnA len at' n), .string st, .int .i64 (dnC len ct n)], .slice d3 n cap3', .int .i64 0]) (by simp [results, Tryz.results99, go_sem, u0, u1, u2, u3, row4_s0 RZ.out (.slice c3 len cap3), row4_s1 RZ.out (.slice c3 len cap3) (.int .i64 (dnA len at' n)), row4_s2 RZ.out (.slice c3 len cap3) (.int .i64 (dnA len at' n)) (.string st), row4_s3 RZ.out (.slice c3 len cap3) (.int .i64 (dnA len at' n)) (.string st) (.int .i64 (dnC len ct n))]) rfl ⟨_, _, _, _, rfl, (((O3.out.chg (P := fun b => b = w.heap.size + 1) (chg4_set (Chg.refl (fun b => b = w.heap.size + 1) W3) (w.heap.size + 1) (fun _ => rfl) _ _ _ _) (fun b hb _ hp => (by have := s1.out; have := L0.out; have := s2.out; have := s3.out; omega))).low (B' := w.heap.size) (by have := s1.out; have := L0.out; have := s2.out; have := s3.out; omega)).keep ((Chg.refl nob _).alloc _)), (((D3.out.chg (P := fun b => b = w.heap.size + 1) (chg4_set (Chg.refl (fun b => b = w.heap.size + 1) W3) (w.heap.size + 1) (fun _ => rfl) _ _ _ _) (fun b hb _ hp => (by have := s1.out; have := L0.out; have := s2.out; have := s3.out; omega))).low (B' := w.heap.size) (by have := s1.out; have := L0.out; have := s2.out; have := s3.out; omega)).keep ((Chg.refl nob _).alloc _)), (chg4_set G.out _ (fun l => absurd l (by simp)) _ _ _ _).alloc _⟩

/-- A source of the call's own, an element, and a code. -/
def OTAns (w : World) (n : Nat) (f g : Nat → Int) (at' : Int) (st : ByteArray) (ct x y code : Int) (e : Ending) (w' : World) : Prop :=
  ∃ (c : Option Addr) (cap : Nat), e = .returned (.tuple #[.agg #[.slice c n cap, .int .i64 at', .string st, .int .i64 ct], .agg #[.int .i64 x, .int .i64 y], .int .i64 code]) ∧ OwnE w' w.heap.size c n f g ∧ Chg nob w w'

set_option maxHeartbeats 2000000 in
theorem takeOne_ok (c : Option Addr) (len cap : Nat) (f g : Nat → Int) (at' : Int) (st : ByteArray) (ct : Int) (w : World) (htb : Hid (Tabs w)) (h : Hid (PairV w c len f g)) (hok : sokb f g len at' st ct = true) (a1 : at' + 1 ≤ 1000000) (c1 : ct + 1 ≤ 1000000) :
    Calls Tryz.prog 69 #[.agg #[.slice c len cap, .int .i64 at', .string st, .int .i64 ct]] w fun e w' => OTAns w len f g (dnA len at' 1) st (dnC len ct 1) (drE f len at' st ct 0) (drF g len at' st ct 0) 0 e w' := by
  obtain ⟨p1, p2, p3, p4, p5⟩ := sokb_parts hok
  have hl : (len : Int) ≤ 9223372036854775807 := by omega
  have hs : (st.size : Int) ≤ 9223372036854775807 := by omega
  have P := hik (sokb_parts hok)
  obtain ⟨x, hx⟩ : ∃ x, x = drE f len at' st ct 0 := ⟨_, rfl⟩
  obtain ⟨y, hy⟩ : ∃ y, y = drF g len at' st ct 0 := ⟨_, rfl⟩
  rw [← hx, ← hy]
  have HX := hik hx
  have HY := hik hy
  clear hx hy
  go_enter Tryz.func69, Tryz.ntmps69
  go_wp2_with fail
  refine (takeSome_ok c len cap f g at' st ct 1 _ (hik (htb.out.keep ((((Chg.refl nob w).alloc _).alloc _).alloc _))) (hik (h.out.keep ((((Chg.refl nob w).alloc _).alloc _).alloc _))) hok (by omega) a1 c1).mono ?_
  rintro e W1 ⟨c3, cap3, d3, cap3', rfl, o3, q3, k1⟩
  have G := hik (((((Chg.refl nob w).alloc _).alloc _).alloc _).trans k1)
  have RZ : Hid (W1.rowIs (w.heap.size + 1) 28 4 (pv4 (.slice none 0 0) (.int .i64 0) (.string ⟨#[]⟩) (.int .i64 0))) := hik (by simpa using rowIs_keep (World.rowIs.alloc (row4_new (w.alloc (.cells #[.slice c len cap, .int .i64 at', .string st, .int .i64 ct] 28)) (.slice none 0 0) (.int .i64 0) (.string ⟨#[]⟩) (.int .i64 0) 28) (.cells #[.int .i64 0, .int .i64 0] 31)) k1)
  have RE : Hid (W1.rowIs (w.heap.size + 1 + 1) 31 2 (pv2 (.int .i64 0) (.int .i64 0))) := hik (by simpa using rowIs_keep (row2_new ((w.alloc (.cells #[.slice c len cap, .int .i64 at', .string st, .int .i64 ct] 28)).alloc (.cells #[.slice none 0 0, .int .i64 0, .string ⟨#[]⟩, .int .i64 0] 28)) (.int .i64 0) (.int .i64 0) 31) k1)
  have L0 := hik (show w.heap.size + 3 ≤ W1.heap.size by have := k1.size; simp at this; omega)
  have O3 := hik o3
  have Q3 := hik q3
  obtain ⟨xb, xo, rfl, hxb, E0, E1⟩ := q3.pairs 0 (by omega)
  have e0 : W1.cell? ⟨xb, xo, none⟩ = some (.int .i64 x) := by rw [HX.out]; simpa using E0
  have e1 : W1.cell? ⟨xb, xo + 1, none⟩ = some (.int .i64 y) := by rw [HY.out]; simpa using E1
  have bl : w.heap.size + 3 ≤ xb := by
    rcases q3 with h0 | ⟨b, N, hh, ec, hb, _⟩
    · omega
    · simp at ec hb; omega
  clear k1 o3 q3 E0 E1
  have l1 : w.heap.size + 1 < W1.heap.size := RZ.out.lt
  have l2 : w.heap.size + 1 + 1 < W1.heap.size := RE.out.lt
  have n1 : ¬ xb = w.heap.size + 1 := by omega
  have n2 : ¬ xb = w.heap.size + 1 + 1 := by omega
  have n3 : ¬ xb = W1.heap.size := by omega
  have n4 : ¬ w.heap.size + 1 = W1.heap.size := by have := L0.out; omega
  have n5 : ¬ w.heap.size + 1 + 1 = W1.heap.size := by have := L0.out; omega
  have n6 : ¬ w.heap.size + 1 = xb := by omega
  have n7 : ¬ w.heap.size + 1 + 1 = xb := by omega
  have y0 := RZ.out.cell (i := 0) (by omega)
  have y1 := RZ.out.cell (i := 1) (by omega)
  have y2 := RZ.out.cell (i := 2) (by omega)
  have y3 := RZ.out.cell (i := 3) (by omega)
  have v0 := RZ.out.frozen 0
  have v1 := RZ.out.frozen 1
  have v2 := RZ.out.frozen 2
  have v3 := RZ.out.frozen 3
  have z0 := RE.out.cell (i := 0) (by omega)
  have z1 := RE.out.cell (i := 1) (by omega)
  have r0 := RE.out.frozen 0
  have r1 := RE.out.frozen 1
  go_wp2
  go_region
  go_wp2
  have RX : Hid ((((((((W1.setCell ⟨w.heap.size + 1, 0, none⟩ (.slice c3 len cap3)).setCell ⟨w.heap.size + 1, 1, none⟩ (.int .i64 (dnA len at' 1))).setCell ⟨w.heap.size + 1, 2, none⟩ (.string st)).setCell ⟨w.heap.size + 1, 3, none⟩ (.int .i64 (dnC len ct 1))).setCell ⟨w.heap.size + 1 + 1, 0, none⟩ (.int .i64 x)).setCell ⟨w.heap.size + 1 + 1, 1, none⟩ (.int .i64 y)).alloc (.cells #[.slice c3 len cap3, .int .i64 (dnA len at' 1), .string st, .int .i64 (dnC len ct 1)] 28)).rowIs (w.heap.size + 1) 28 4 (pv4 (.slice c3 len cap3) (.int .i64 (dnA len at' 1)) (.string st) (.int .i64 (dnC len ct 1)))) := hik (World.rowIs.alloc (row2_other (row4_set RZ.out _ _ _ _) (by omega) _ _) _)
  have RY : Hid ((((((((W1.setCell ⟨w.heap.size + 1, 0, none⟩ (.slice c3 len cap3)).setCell ⟨w.heap.size + 1, 1, none⟩ (.int .i64 (dnA len at' 1))).setCell ⟨w.heap.size + 1, 2, none⟩ (.string st)).setCell ⟨w.heap.size + 1, 3, none⟩ (.int .i64 (dnC len ct 1))).setCell ⟨w.heap.size + 1 + 1, 0, none⟩ (.int .i64 x)).setCell ⟨w.heap.size + 1 + 1, 1, none⟩ (.int .i64 y)).alloc (.cells #[.slice c3 len cap3, .int .i64 (dnA len at' 1), .string st, .int .i64 (dnC len ct 1)] 28)).rowIs (w.heap.size + 1 + 1) 31 2 (pv2 (.int .i64 x) (.int .i64 y))) := hik (World.rowIs.alloc (row2_set (row4_other RE.out (by omega) _ _ _ _) _ _) _)
  have u0 : (((((((W1.setCell ⟨w.heap.size + 1, 0, none⟩ (.slice c3 len cap3)).setCell ⟨w.heap.size + 1, 1, none⟩ (.int .i64 (dnA len at' 1))).setCell ⟨w.heap.size + 1, 2, none⟩ (.string st)).setCell ⟨w.heap.size + 1, 3, none⟩ (.int .i64 (dnC len ct 1))).setCell ⟨w.heap.size + 1 + 1, 0, none⟩ (.int .i64 x)).setCell ⟨w.heap.size + 1 + 1, 1, none⟩ (.int .i64 y)).alloc (.cells #[.slice c3 len cap3, .int .i64 (dnA len at' 1), .string st, .int .i64 (dnC len ct 1)] 28)).cell? ⟨w.heap.size + 1, 0, none⟩ = some (.slice c3 len cap3) := RX.out.cell (by omega)
  have u1 : (((((((W1.setCell ⟨w.heap.size + 1, 0, none⟩ (.slice c3 len cap3)).setCell ⟨w.heap.size + 1, 1, none⟩ (.int .i64 (dnA len at' 1))).setCell ⟨w.heap.size + 1, 2, none⟩ (.string st)).setCell ⟨w.heap.size + 1, 3, none⟩ (.int .i64 (dnC len ct 1))).setCell ⟨w.heap.size + 1 + 1, 0, none⟩ (.int .i64 x)).setCell ⟨w.heap.size + 1 + 1, 1, none⟩ (.int .i64 y)).alloc (.cells #[.slice c3 len cap3, .int .i64 (dnA len at' 1), .string st, .int .i64 (dnC len ct 1)] 28)).cell? ⟨w.heap.size + 1, 1, none⟩ = some (.int .i64 (dnA len at' 1)) := RX.out.cell (by omega)
  have u2 : (((((((W1.setCell ⟨w.heap.size + 1, 0, none⟩ (.slice c3 len cap3)).setCell ⟨w.heap.size + 1, 1, none⟩ (.int .i64 (dnA len at' 1))).setCell ⟨w.heap.size + 1, 2, none⟩ (.string st)).setCell ⟨w.heap.size + 1, 3, none⟩ (.int .i64 (dnC len ct 1))).setCell ⟨w.heap.size + 1 + 1, 0, none⟩ (.int .i64 x)).setCell ⟨w.heap.size + 1 + 1, 1, none⟩ (.int .i64 y)).alloc (.cells #[.slice c3 len cap3, .int .i64 (dnA len at' 1), .string st, .int .i64 (dnC len ct 1)] 28)).cell? ⟨w.heap.size + 1, 2, none⟩ = some (.string st) := RX.out.cell (by omega)
  have u3 : (((((((W1.setCell ⟨w.heap.size + 1, 0, none⟩ (.slice c3 len cap3)).setCell ⟨w.heap.size + 1, 1, none⟩ (.int .i64 (dnA len at' 1))).setCell ⟨w.heap.size + 1, 2, none⟩ (.string st)).setCell ⟨w.heap.size + 1, 3, none⟩ (.int .i64 (dnC len ct 1))).setCell ⟨w.heap.size + 1 + 1, 0, none⟩ (.int .i64 x)).setCell ⟨w.heap.size + 1 + 1, 1, none⟩ (.int .i64 y)).alloc (.cells #[.slice c3 len cap3, .int .i64 (dnA len at' 1), .string st, .int .i64 (dnC len ct 1)] 28)).cell? ⟨w.heap.size + 1, 3, none⟩ = some (.int .i64 (dnC len ct 1)) := RX.out.cell (by omega)
  have t0 : (((((((W1.setCell ⟨w.heap.size + 1, 0, none⟩ (.slice c3 len cap3)).setCell ⟨w.heap.size + 1, 1, none⟩ (.int .i64 (dnA len at' 1))).setCell ⟨w.heap.size + 1, 2, none⟩ (.string st)).setCell ⟨w.heap.size + 1, 3, none⟩ (.int .i64 (dnC len ct 1))).setCell ⟨w.heap.size + 1 + 1, 0, none⟩ (.int .i64 x)).setCell ⟨w.heap.size + 1 + 1, 1, none⟩ (.int .i64 y)).alloc (.cells #[.slice c3 len cap3, .int .i64 (dnA len at' 1), .string st, .int .i64 (dnC len ct 1)] 28)).cell? ⟨w.heap.size + 1 + 1, 0, none⟩ = some (.int .i64 x) := RY.out.cell (by omega)
  have t1 : (((((((W1.setCell ⟨w.heap.size + 1, 0, none⟩ (.slice c3 len cap3)).setCell ⟨w.heap.size + 1, 1, none⟩ (.int .i64 (dnA len at' 1))).setCell ⟨w.heap.size + 1, 2, none⟩ (.string st)).setCell ⟨w.heap.size + 1, 3, none⟩ (.int .i64 (dnC len ct 1))).setCell ⟨w.heap.size + 1 + 1, 0, none⟩ (.int .i64 x)).setCell ⟨w.heap.size + 1 + 1, 1, none⟩ (.int .i64 y)).alloc (.cells #[.slice c3 len cap3, .int .i64 (dnA len at' 1), .string st, .int .i64 (dnC len ct 1)] 28)).cell? ⟨w.heap.size + 1 + 1, 1, none⟩ = some (.int .i64 y) := RY.out.cell (by omega)
  have PC : Chg (fun b => b = w.heap.size + 1 ∨ b = w.heap.size + 1 + 1) W1 (((((((W1.setCell ⟨w.heap.size + 1, 0, none⟩ (.slice c3 len cap3)).setCell ⟨w.heap.size + 1, 1, none⟩ (.int .i64 (dnA len at' 1))).setCell ⟨w.heap.size + 1, 2, none⟩ (.string st)).setCell ⟨w.heap.size + 1, 3, none⟩ (.int .i64 (dnC len ct 1))).setCell ⟨w.heap.size + 1 + 1, 0, none⟩ (.int .i64 x)).setCell ⟨w.heap.size + 1 + 1, 1, none⟩ (.int .i64 y)).alloc (.cells #[.slice c3 len cap3, .int .i64 (dnA len at' 1), .string st, .int .i64 (dnC len ct 1)] 28)) := (chg2_set (chg4_set (Chg.refl _ W1) _ (fun _ => .inl rfl) _ _ _ _) _ (fun _ => .inr rfl) _ _).alloc _
  have GF : Chg nob w (((((((W1.setCell ⟨w.heap.size + 1, 0, none⟩ (.slice c3 len cap3)).setCell ⟨w.heap.size + 1, 1, none⟩ (.int .i64 (dnA len at' 1))).setCell ⟨w.heap.size + 1, 2, none⟩ (.string st)).setCell ⟨w.heap.size + 1, 3, none⟩ (.int .i64 (dnC len ct 1))).setCell ⟨w.heap.size + 1 + 1, 0, none⟩ (.int .i64 x)).setCell ⟨w.heap.size + 1 + 1, 1, none⟩ (.int .i64 y)).alloc (.cells #[.slice c3 len cap3, .int .i64 (dnA len at' 1), .string st, .int .i64 (dnC len ct 1)] 28)) := G.out.near PC (fun i e => by omega)
  exact bodyPost_ret (v := .tuple #[.agg #[.slice c3 len cap3, .int .i64 (dnA len at' 1), .string st, .int .i64 (dnC len ct 1)], .agg #[.int .i64 x, .int .i64 y], .int .i64 0]) (by simp [results, Tryz.results69, go_sem, u0, u1, u2, u3, t0, t1]) rfl ⟨_, _, rfl, ((O3.out.chg PC (fun b hb _ hp => (by simp at hb; have := L0.out; omega))).low (by simp; omega)).keep (Chg.refl nob _).drew, GF.drew⟩

end Go.Proofs.YtgiefpipflcbgadGreatDoor
