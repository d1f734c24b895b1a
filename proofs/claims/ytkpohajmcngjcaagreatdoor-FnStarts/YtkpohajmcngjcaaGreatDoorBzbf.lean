/- Several texts in one: What the program's sources take in: a contract. Conditions: a state of 32 bytes, texts of at most 65536 bytes, rows that can be read; the tables hold the shifts and the rounds' constants. · Whether a nonce does, and the least one that does, by the program: contracts. Conditions: rows that can be read, the tables hold the shifts and the rounds' constants. · What a sponge and a script draw, by the program: contracts. Conditions: a state of 32 bytes, numbers of a right source, rows that can be read; the tables hold the shifts and the rounds' constants. · What a script draws, who draws, and what is left behind draws, by the program: contracts. Conditions: a right source, rows that can be read; the tables hold the shifts and the rounds' constants. -/
import Derived.Test.YtkpohajmcngjcaaGreatDoorBzbe
import Derived.Deep.RegionWith
import Derived.BigRegion
import Derived.Test.YtkpohajmcngjcaaGreatDoorBzag
import Derived.Deep.QuietTactic
import Derived.BigQuiet
import Derived.Test.YtkpohajmcngjcaaGreatDoorBzbh
import Derived.Deep.RegionHeld3
namespace Go.Proofs.YtkpohajmcngjcaaGreatDoor
open Go.ChangeShapes Go.WideShapes Go.ChangeAt Go.RowKit
set_option linter.unusedVariables false
set_option maxRecDepth 100000
set_option linter.unusedSimpArgs false

/-- A text as bytes. -/
theorem conv_text (s : ByteArray) (w : World) (hs : s.size ≤ 1048576) : ∃ (W0 : World) (cap0 : Nat), (convert 9 53 (.string s)).run Tryz.prog w = .ok (.slice (some ⟨w.heap.size, 0, none⟩) s.size cap0) W0 ∧ Hid (BRow W0 w.heap.size w.heap.size s.size cap0 (zs s)) ∧ Hid (Chg nob w W0) ∧ (cap0 : Int) ≤ 9223372036854775807 :=
  ⟨_, _, Go.Lib.run_convert_string_bytes w 9 53 5 s Tryz.underlying9 Tryz.underlying53 Tryz.underlying5, hik (BRow.of_string w 5 s), hik (chg_string w 5 s), by
    have h := grownCap_le_maxLen w s.size 0 5 (by unfold maxLen; omega)
    unfold maxLen at h
    omega⟩

set_option maxHeartbeats 2000000 in
theorem takingIn_any (c : Option Addr) (len cap : Nat) (f g : Nat → Int) (at' : Int) (st : ByteArray) (ct : Int) (t : ByteArray) (w : World) (htb : Hid (Tabs w)) (h : Hid (PairV w c len f g)) (hl : len ≤ 1099511627776) (hst : st.size = 32) (ht : t.size ≤ 65536) :
    Calls Tryz.prog 106 #[.agg #[.slice c len cap, .int .i64 at', .string st, .int .i64 ct], .string t] w fun e w' => SrAns w len f g at' (abS st t) 0 e w' := by
  have hst' : (st.size : Int) = 32 := by omega
  have ht' : (t.size : Int) ≤ 65536 := by omega
  have hb4 : (be4 (t.size : Int)).size = 4 := be4_size _
  have hno : ¬ 9223372036854775807 < 42 + t.size := by omega
  have hsz : (abT st t).size ≤ 1048576 := by rw [abT_size]; omega
  have HSZ := hik hsz
  clear hsz
  go_enter Tryz.func106, Tryz.ntmps106
  go_wp2
  refine wp_region_held_drew (S := fun _ => True) (by kernel_rfl) True.intro (fun hHeld => ?_)
  refine wpAnyH_take (i := 0) (v := ?_) rfl (by kernel_rfl) (by kernel_rfl) (by kernel_rfl) (fun _ _ _ h => h) (Or.inl ⟨by rfl, ?_⟩) (by assumption) ?_
  rotate_left 1
  · (intro w' hSw; (try dsimp only at hSw); go_simp; try with_reducible rfl)
  try simp only [Act.put, List.setIfInBounds_toArray, List.set_cons_zero, List.set_cons_succ, List.getElem_toArray, List.getElem_cons_zero, List.getElem_cons_succ]
  refine wpAnyH_take (i := 3) (v := ?_) rfl (by kernel_rfl) (by kernel_rfl) (by kernel_rfl) (fun _ _ _ h => h) (Or.inl ⟨by rfl, ?_⟩) (by assumption) ?_
  rotate_left 1
  · (intro w' hSw; (try dsimp only at hSw); go_simp; try with_reducible rfl)
  try simp only [Act.put, List.setIfInBounds_toArray, List.set_cons_zero, List.set_cons_succ, List.getElem_toArray, List.getElem_cons_zero, List.getElem_cons_succ]
  refine wpAnyH_take (i := 4) (v := ?_) rfl (by kernel_rfl) (by kernel_rfl) (by kernel_rfl) (fun _ _ _ h => h) (Or.inl ⟨by rfl, ?_⟩) (by assumption) ?_
  rotate_left 1
  · (intro w' hSw; (try dsimp only at hSw); go_simp; try with_reducible rfl)
  try simp only [Act.put, List.setIfInBounds_toArray, List.set_cons_zero, List.set_cons_succ, List.getElem_toArray, List.getElem_cons_zero, List.getElem_cons_succ]
  refine wpAnyH_take (i := 7) (v := ?_) rfl (by kernel_rfl) (by kernel_rfl) (by kernel_rfl) (fun _ _ _ h => h) (Or.inl ⟨by rfl, ?_⟩) (by assumption) ?_
  rotate_left 1
  · (intro w' hSw; (try dsimp only at hSw); go_simp; try with_reducible rfl)
  try simp only [Act.put, List.setIfInBounds_toArray, List.set_cons_zero, List.set_cons_succ, List.getElem_toArray, List.getElem_cons_zero, List.getElem_cons_succ]
  refine wpAnyH_ready (rs := [1, 5]) (by kernel_rfl) (by simp) ?_
  refine AllReadyH.cons rfl (fun K hK => ?_) ?_
  · simp only [List.getElem_toArray, List.getElem_cons_zero, List.getElem_cons_succ]
    go_simp
    refine hK.out _ _ True.intro (fun hHeld => ?_)
    clear hK K
    try simp only [Act.put, List.setIfInBounds_toArray, List.set_cons_zero, List.set_cons_succ, List.getElem_toArray, List.getElem_cons_zero, List.getElem_cons_succ]
    refine wpAnyH_take (i := 2) (v := ?_) rfl (by kernel_rfl) (by kernel_rfl) (by kernel_rfl) (fun _ _ _ h => h) (Or.inl ⟨by rfl, ?_⟩) (by assumption) ?_
    rotate_left 1
    · (intro w' hSw; (try dsimp only at hSw); go_simp; try with_reducible rfl)
    try simp only [Act.put, List.setIfInBounds_toArray, List.set_cons_zero, List.set_cons_succ, List.getElem_toArray, List.getElem_cons_zero, List.getElem_cons_succ]
    refine wpAnyH_ready (rs := [5]) (by kernel_rfl) (by simp) ?_
    refine AllReadyH.cons rfl (fun K hK => ?_) AllReadyH.nil
    refine stepL_callN 120 #[.tmp 9] #[3] (by rfl) (by rfl) #[.int .i64 t.size] (by simp only [List.map_toArray, List.map_cons, List.map_nil]; rfl) (run_go Tryz.func120 (by kernel_rfl) (by kernel_rfl) _ _) (wordText_any (t.size : Int) _ (by omega) (by omega)) ?_
    rintro e W1 ⟨he, k1⟩
    refine ⟨_, he, ?_⟩
    refine hK.out _ _ True.intro (fun hHeld => ?_)
    clear hK K
    try simp only [Act.put, List.setIfInBounds_toArray, List.set_cons_zero, List.set_cons_succ, List.getElem_toArray, List.getElem_cons_zero, List.getElem_cons_succ]
    have K1 := hik k1
    have x1 : W1.cell? ⟨w.heap.size, 2, none⟩ = some (.string st) := k1.see (by go_simp)
    clear he k1
    refine wpAnyH_take (i := 6) (v := ?_) rfl (by kernel_rfl) (by kernel_rfl) (by kernel_rfl) (fun _ _ _ h => h) (Or.inl ⟨by rfl, ?_⟩) (by assumption) ?_
    rotate_left 1
    · (intro w' hSw; (try dsimp only at hSw); go_simp; try with_reducible rfl)
    try simp only [Act.put, List.setIfInBounds_toArray, List.set_cons_zero, List.set_cons_succ, List.getElem_toArray, List.getElem_cons_zero, List.getElem_cons_succ]
    refine wpAnyH_take (i := 8) (v := ?_) rfl (by kernel_rfl) (by kernel_rfl) (by kernel_rfl) (fun _ _ _ h => h) (Or.inl ⟨by rfl, ?_⟩) (by assumption) ?_
    rotate_left 1
    · (intro w' hSw; (try dsimp only at hSw); go_simp; try with_reducible rfl)
    try simp only [Act.put, List.setIfInBounds_toArray, List.set_cons_zero, List.set_cons_succ, List.getElem_toArray, List.getElem_cons_zero, List.getElem_cons_succ]
    obtain ⟨W0, cap0, hcv, HB0, HG0, HC0⟩ := conv_text (abT st t) W1 HSZ.out
    refine wpAnyH_ready (rs := [9]) (by kernel_rfl) (by simp) ?_
    refine AllReadyH.cons rfl (fun K hK => ?_) AllReadyH.nil
    refine stepL_conv 9 53 (.tmp 13) (by rfl) (by rfl) (.string (abT st t)) _ _ (by rfl) hcv ?_
    refine hK.out _ _ True.intro (fun hHeld => ?_)
    clear hK K
    try simp only [Act.put, List.setIfInBounds_toArray, List.set_cons_zero, List.set_cons_succ, List.getElem_toArray, List.getElem_cons_zero, List.getElem_cons_succ]
    have HC1 := hik HC0
    clear hcv HC0
    refine wpAnyH_ready (rs := [10]) (by kernel_rfl) (by simp) ?_
    refine AllReadyH.cons rfl (fun K hK => ?_) AllReadyH.nil
    refine stepL_callN 119 #[.tmp 14] #[53] (by rfl) (by rfl) #[.slice (some ⟨W1.heap.size, 0, none⟩) (abT st t).size cap0] (by simp only [List.map_toArray, List.map_cons, List.map_nil]; rfl) (run_go Tryz.func119 (by kernel_rfl) (by kernel_rfl) _ _) (keccak_any (some ⟨W1.heap.size, 0, none⟩) (abT st t).size cap0 (zs (abT st t)) _ (hik HB0.out.row) (hik (zs_B (abT st t))) (hik (htb.out.keep (((((Chg.refl nob w).alloc _).alloc _).drew1.trans K1.out).trans HG0.out))) (by have := HSZ.out; omega) HB0.out.le HC1.out) ?_
    rintro e W2 ⟨he, k2⟩
    have he : e = .returned (.string (abS st t)) := he
    refine ⟨_, he, ?_⟩
    refine hK.out _ _ True.intro (fun hHeld => ?_)
    clear hK K
    try simp only [Act.put, List.setIfInBounds_toArray, List.set_cons_zero, List.set_cons_succ, List.getElem_toArray, List.getElem_cons_zero, List.getElem_cons_succ]
    clear he x1
    have KK : Chg nob ((w.alloc (.cells #[.slice c len cap, .int .i64 at', .string st, .int .i64 ct] 35)).alloc (.cells #[.slice none 0 0, .int .i64 0, .string ⟨#[]⟩, .int .i64 0] 35)) W2 := (Chg.refl nob _).drew1.trans (K1.out.trans (HG0.out.trans k2))
    obtain ⟨hc2, hf2, hz2⟩ := kcell KK (w.heap.size + 2) (by simp)
    have G2 := hik (((Chg.refl nob w).alloc (.cells #[.slice c len cap, .int .i64 at', .string st, .int .i64 ct] 35)).alloc (.cells #[.slice none 0 0, .int .i64 0, .string ⟨#[]⟩, .int .i64 0] 35))
    have G3 := hik (G2.out.trans KK)
    have R0 := hik (rowIs_keep (World.rowIs.alloc (row4_new w (.slice c len cap) (.int .i64 at') (.string st) (.int .i64 ct) 35) (.cells #[.slice none 0 0, .int .i64 0, .string ⟨#[]⟩, .int .i64 0] 35)) KK)
    have R1 := hik (rowIs_keep (row4_new (w.alloc (.cells #[.slice c len cap, .int .i64 at', .string st, .int .i64 ct] 35)) (.slice none 0 0) (.int .i64 0) (.string ⟨#[]⟩) (.int .i64 0) 35) KK)
    clear K1 k2 KK G2 HB0 HG0 HC1
    refine wpAnyH_take (i := 11) (v := ?_) rfl (by kernel_rfl) (by kernel_rfl) (by kernel_rfl) (fun _ _ _ h => h) (Or.inl ⟨by rfl, ?_⟩) (by assumption) ?_
    rotate_left 1
    · (intro w' hSw; (try dsimp only at hSw); go_simp; try with_reducible rfl)
    try simp only [Act.put, List.setIfInBounds_toArray, List.set_cons_zero, List.set_cons_succ, List.getElem_toArray, List.getElem_cons_zero, List.getElem_cons_succ]
    refine wpAnyH_ready (rs := [12]) (by kernel_rfl) (by simp) ?_
    refine AllReadyH.cons rfl (fun K hK => ?_) AllReadyH.nil
    simp only [List.getElem_toArray, List.getElem_cons_zero, List.getElem_cons_succ]
    go_simp
    refine hK.out _ _ True.intro (fun hHeld => ?_)
    clear hK K
    try simp only [Act.put, List.setIfInBounds_toArray, List.set_cons_zero, List.set_cons_succ, List.getElem_toArray, List.getElem_cons_zero, List.getElem_cons_succ]
    refine wpAnyH_done (by kernel_rfl) ?_ _
    have G4 := hik ((G3.out.setCell (p := ⟨w.heap.size, 2, none⟩) (fun l => absurd l (by simp)) (.string (abS st t))).setCell (p := ⟨w.heap.size, 3, none⟩) (fun l => absurd l (by simp)) (.int .i64 0))
    have R2 : Hid (((W2.setCell ⟨w.heap.size, 2, none⟩ (.string (abS st t))).setCell ⟨w.heap.size, 3, none⟩ (.int .i64 0)).rowIs (w.heap.size + 1) 35 4 (pv4 (.slice none 0 0) (.int .i64 0) (.string ⟨#[]⟩) (.int .i64 0))) := hik (World.rowIs.setOther (World.rowIs.setOther (by simpa using R1.out) (by simp) _) (by simp) _)
    go_wp2_with fail
    refine (copied_any c len cap f g at' (abS st t) 0 _ (hik (h.out.keep G4.out)) hl).mono ?_
    rintro e W3 ⟨c3, cap3, rfl, o3, k3⟩
    have L2 := hik R2.out.lt
    have G5 := hik (G4.out.trans k3)
    have R3 := hik (rowIs_keep R2.out k3)
    have O3 := hik o3
    clear k3 o3 hc2 hf2 hz2
    have hz3 : w.heap.size + 1 < W3.heap.size := R3.out.lt
    have y0 := R3.out.cell (i := 0) (by omega)
    have v0 := R3.out.frozen 0
    have y1 := R3.out.cell (i := 1) (by omega)
    have v1 := R3.out.frozen 1
    have y2 := R3.out.cell (i := 2) (by omega)
    have v2 := R3.out.frozen 2
    have y3 := R3.out.cell (i := 3) (by omega)
    have v3 := R3.out.frozen 3
    go_wp2
    exact bodyPost_ret (v := .agg #[.slice c3 len cap3, .int .i64 at', .string (abS st t), .int .i64 0]) (by simp [results, Tryz.results106, go_sem, row4_s0 R3.out (.slice c3 len cap3), row4_s1 R3.out (.slice c3 len cap3) (.int .i64 at'), row4_s2 R3.out (.slice c3 len cap3) (.int .i64 at') (.string (abS st t)), row4_s3 R3.out (.slice c3 len cap3) (.int .i64 at') (.string (abS st t)) (.int .i64 0)]) rfl ⟨_, _, rfl, ((O3.out.chg (P := fun b => b = w.heap.size + 1) (chg4_set (Chg.refl (fun b => b = w.heap.size + 1) W3) (w.heap.size + 1) (fun _ => rfl) _ _ _ _) (fun b hb _ hp => (by have := L2.out; omega))).low (B' := w.heap.size) (by have := L2.out; omega)), chg4_set G5.out _ (fun l => absurd l (by simp)) _ _ _ _⟩
  · refine AllReadyH.cons rfl (fun K hK => ?_) AllReadyH.nil
    refine stepL_callN 120 #[.tmp 9] #[3] (by rfl) (by rfl) #[.int .i64 t.size] (by simp only [List.map_toArray, List.map_cons, List.map_nil]; rfl) (run_go Tryz.func120 (by kernel_rfl) (by kernel_rfl) _ _) (wordText_any (t.size : Int) _ (by omega) (by omega)) ?_
    rintro e W1 ⟨he, k1⟩
    refine ⟨_, he, ?_⟩
    refine hK.out _ _ True.intro (fun hHeld => ?_)
    clear hK K
    try simp only [Act.put, List.setIfInBounds_toArray, List.set_cons_zero, List.set_cons_succ, List.getElem_toArray, List.getElem_cons_zero, List.getElem_cons_succ]
    have K1 := hik k1
    have x1 : W1.cell? ⟨w.heap.size, 2, none⟩ = some (.string st) := k1.see (by go_simp)
    clear he k1
    refine wpAnyH_ready (rs := [1]) (by kernel_rfl) (by simp) ?_
    refine AllReadyH.cons rfl (fun K hK => ?_) AllReadyH.nil
    simp only [List.getElem_toArray, List.getElem_cons_zero, List.getElem_cons_succ]
    go_simp
    refine hK.out _ _ True.intro (fun hHeld => ?_)
    clear hK K
    try simp only [Act.put, List.setIfInBounds_toArray, List.set_cons_zero, List.set_cons_succ, List.getElem_toArray, List.getElem_cons_zero, List.getElem_cons_succ]
    refine wpAnyH_take (i := 2) (v := ?_) rfl (by kernel_rfl) (by kernel_rfl) (by kernel_rfl) (fun _ _ _ h => h) (Or.inl ⟨by rfl, ?_⟩) (by assumption) ?_
    rotate_left 1
    · (intro w' hSw; (try dsimp only at hSw); go_simp; try with_reducible rfl)
    try simp only [Act.put, List.setIfInBounds_toArray, List.set_cons_zero, List.set_cons_succ, List.getElem_toArray, List.getElem_cons_zero, List.getElem_cons_succ]
    refine wpAnyH_take (i := 6) (v := ?_) rfl (by kernel_rfl) (by kernel_rfl) (by kernel_rfl) (fun _ _ _ h => h) (Or.inl ⟨by rfl, ?_⟩) (by assumption) ?_
    rotate_left 1
    · (intro w' hSw; (try dsimp only at hSw); go_simp; try with_reducible rfl)
    try simp only [Act.put, List.setIfInBounds_toArray, List.set_cons_zero, List.set_cons_succ, List.getElem_toArray, List.getElem_cons_zero, List.getElem_cons_succ]
    refine wpAnyH_take (i := 8) (v := ?_) rfl (by kernel_rfl) (by kernel_rfl) (by kernel_rfl) (fun _ _ _ h => h) (Or.inl ⟨by rfl, ?_⟩) (by assumption) ?_
    rotate_left 1
    · (intro w' hSw; (try dsimp only at hSw); go_simp; try with_reducible rfl)
    try simp only [Act.put, List.setIfInBounds_toArray, List.set_cons_zero, List.set_cons_succ, List.getElem_toArray, List.getElem_cons_zero, List.getElem_cons_succ]
    obtain ⟨W0, cap0, hcv, HB0, HG0, HC0⟩ := conv_text (abT st t) W1 HSZ.out
    refine wpAnyH_ready (rs := [9]) (by kernel_rfl) (by simp) ?_
    refine AllReadyH.cons rfl (fun K hK => ?_) AllReadyH.nil
    refine stepL_conv 9 53 (.tmp 13) (by rfl) (by rfl) (.string (abT st t)) _ _ (by rfl) hcv ?_
    refine hK.out _ _ True.intro (fun hHeld => ?_)
    clear hK K
    try simp only [Act.put, List.setIfInBounds_toArray, List.set_cons_zero, List.set_cons_succ, List.getElem_toArray, List.getElem_cons_zero, List.getElem_cons_succ]
    have HC1 := hik HC0
    clear hcv HC0
    refine wpAnyH_ready (rs := [10]) (by kernel_rfl) (by simp) ?_
    refine AllReadyH.cons rfl (fun K hK => ?_) AllReadyH.nil
    refine stepL_callN 119 #[.tmp 14] #[53] (by rfl) (by rfl) #[.slice (some ⟨W1.heap.size, 0, none⟩) (abT st t).size cap0] (by simp only [List.map_toArray, List.map_cons, List.map_nil]; rfl) (run_go Tryz.func119 (by kernel_rfl) (by kernel_rfl) _ _) (keccak_any (some ⟨W1.heap.size, 0, none⟩) (abT st t).size cap0 (zs (abT st t)) _ (hik HB0.out.row) (hik (zs_B (abT st t))) (hik (htb.out.keep (((((Chg.refl nob w).alloc _).alloc _).drew1.trans K1.out).trans HG0.out))) (by have := HSZ.out; omega) HB0.out.le HC1.out) ?_
    rintro e W2 ⟨he, k2⟩
    have he : e = .returned (.string (abS st t)) := he
    refine ⟨_, he, ?_⟩
    refine hK.out _ _ True.intro (fun hHeld => ?_)
    clear hK K
    try simp only [Act.put, List.setIfInBounds_toArray, List.set_cons_zero, List.set_cons_succ, List.getElem_toArray, List.getElem_cons_zero, List.getElem_cons_succ]
    clear he x1
    have KK : Chg nob ((w.alloc (.cells #[.slice c len cap, .int .i64 at', .string st, .int .i64 ct] 35)).alloc (.cells #[.slice none 0 0, .int .i64 0, .string ⟨#[]⟩, .int .i64 0] 35)) W2 := (Chg.refl nob _).drew1.trans (K1.out.trans (HG0.out.trans k2))
    obtain ⟨hc2, hf2, hz2⟩ := kcell KK (w.heap.size + 2) (by simp)
    have G2 := hik (((Chg.refl nob w).alloc (.cells #[.slice c len cap, .int .i64 at', .string st, .int .i64 ct] 35)).alloc (.cells #[.slice none 0 0, .int .i64 0, .string ⟨#[]⟩, .int .i64 0] 35))
    have G3 := hik (G2.out.trans KK)
    have R0 := hik (rowIs_keep (World.rowIs.alloc (row4_new w (.slice c len cap) (.int .i64 at') (.string st) (.int .i64 ct) 35) (.cells #[.slice none 0 0, .int .i64 0, .string ⟨#[]⟩, .int .i64 0] 35)) KK)
    have R1 := hik (rowIs_keep (row4_new (w.alloc (.cells #[.slice c len cap, .int .i64 at', .string st, .int .i64 ct] 35)) (.slice none 0 0) (.int .i64 0) (.string ⟨#[]⟩) (.int .i64 0) 35) KK)
    clear K1 k2 KK G2 HB0 HG0 HC1
    refine wpAnyH_take (i := 11) (v := ?_) rfl (by kernel_rfl) (by kernel_rfl) (by kernel_rfl) (fun _ _ _ h => h) (Or.inl ⟨by rfl, ?_⟩) (by assumption) ?_
    rotate_left 1
    · (intro w' hSw; (try dsimp only at hSw); go_simp; try with_reducible rfl)
    try simp only [Act.put, List.setIfInBounds_toArray, List.set_cons_zero, List.set_cons_succ, List.getElem_toArray, List.getElem_cons_zero, List.getElem_cons_succ]
    refine wpAnyH_ready (rs := [12]) (by kernel_rfl) (by simp) ?_
    refine AllReadyH.cons rfl (fun K hK => ?_) AllReadyH.nil
    simp only [List.getElem_toArray, List.getElem_cons_zero, List.getElem_cons_succ]
    go_simp
    refine hK.out _ _ True.intro (fun hHeld => ?_)
    clear hK K
    try simp only [Act.put, List.setIfInBounds_toArray, List.set_cons_zero, List.set_cons_succ, List.getElem_toArray, List.getElem_cons_zero, List.getElem_cons_succ]
    refine wpAnyH_done (by kernel_rfl) ?_ _
    have G4 := hik ((G3.out.setCell (p := ⟨w.heap.size, 2, none⟩) (fun l => absurd l (by simp)) (.string (abS st t))).setCell (p := ⟨w.heap.size, 3, none⟩) (fun l => absurd l (by simp)) (.int .i64 0))
    have R2 : Hid (((W2.setCell ⟨w.heap.size, 2, none⟩ (.string (abS st t))).setCell ⟨w.heap.size, 3, none⟩ (.int .i64 0)).rowIs (w.heap.size + 1) 35 4 (pv4 (.slice none 0 0) (.int .i64 0) (.string ⟨#[]⟩) (.int .i64 0))) := hik (World.rowIs.setOther (World.rowIs.setOther (by simpa using R1.out) (by simp) _) (by simp) _)
    go_wp2_with fail
    refine (copied_any c len cap f g at' (abS st t) 0 _ (hik (h.out.keep G4.out)) hl).mono ?_
    rintro e W3 ⟨c3, cap3, rfl, o3, k3⟩
    have L2 := hik R2.out.lt
    have G5 := hik (G4.out.trans k3)
    have R3 := hik (rowIs_keep R2.out k3)
    have O3 := hik o3
    clear k3 o3 hc2 hf2 hz2
    have hz3 : w.heap.size + 1 < W3.heap.size := R3.out.lt
    have y0 := R3.out.cell (i := 0) (by omega)
    have v0 := R3.out.frozen 0
    have y1 := R3.out.cell (i := 1) (by omega)
    have v1 := R3.out.frozen 1
    have y2 := R3.out.cell (i := 2) (by omega)
    have v2 := R3.out.frozen 2
    have y3 := R3.out.cell (i := 3) (by omega)
    have v3 := R3.out.frozen 3
    go_wp2
    exact bodyPost_ret (v := .agg #[.slice c3 len cap3, .int .i64 at', .string (abS st t), .int .i64 0]) (by simp [results, Tryz.results106, go_sem, row4_s0 R3.out (.slice c3 len cap3), row4_s1 R3.out (.slice c3 len cap3) (.int .i64 at'), row4_s2 R3.out (.slice c3 len cap3) (.int .i64 at') (.string (abS st t)), row4_s3 R3.out (.slice c3 len cap3) (.int .i64 at') (.string (abS st t)) (.int .i64 0)]) rfl ⟨_, _, rfl, ((O3.out.chg (P := fun b => b = w.heap.size + 1) (chg4_set (Chg.refl (fun b => b = w.heap.size + 1) W3) (w.heap.size + 1) (fun _ => rfl) _ _ _ _) (fun b hb _ hp => (by have := L2.out; omega))).low (B' := w.heap.size) (by have := L2.out; omega)), chg4_set G5.out _ (fun l => absurd l (by simp)) _ _ _ _⟩

end Go.Proofs.YtkpohajmcngjcaaGreatDoor

namespace Go.Proofs.YtkpohajmcngjcaaGreatDoor
open Go.ChangeShapes Go.WideShapes Go.ChangeAt Go.RowKit
set_option linter.unusedVariables false
set_option maxRecDepth 100000
set_option linter.unusedSimpArgs false


end Go.Proofs.YtkpohajmcngjcaaGreatDoor

namespace Go.Proofs.YtkpohajmcngjcaaGreatDoor
open Go.ChangeShapes Go.WideShapes Go.ChangeAt Go.RowKit
set_option linter.unusedVariables false
set_option maxRecDepth 100000
set_option linter.unusedSimpArgs false


end Go.Proofs.YtkpohajmcngjcaaGreatDoor

namespace Go.Proofs.YtkpohajmcngjcaaGreatDoor
open Go.ChangeShapes Go.WideShapes Go.ChangeAt Go.RowKit
set_option linter.unusedVariables false
set_option maxRecDepth 100000
set_option linter.unusedSimpArgs false


end Go.Proofs.YtkpohajmcngjcaaGreatDoor
