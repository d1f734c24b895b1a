/- Several texts in one: What the model makes of eight bytes: a contract. Condition: a text of at least eight bytes. · What the program makes of eight bytes: a contract. Condition: at least eight bytes that can be read. · What the model draws: contracts. Conditions: rows that can be read; a right source. · What the model draws, whatever draws: contracts. Conditions: rows that can be read; a right source with draws left. -/
import Derived.Test.YtkpohajmcngjcaaGreatDoorBzaa
import Derived.Test.YtkpohajmcngjcaaGreatDoorBzag
import Derived.Test.YtkpohajmcngjcaaGreatDoorBzao
import Derived.Test.YtkpohajmcngjcaaGreatDoorBzax
import Derived.Deep.QuietTactic
import Derived.BigQuiet
import Derived.Test.YtkpohajmcngjcaaGreatDoorBzbb
import Derived.Deep.RegionHeld3
import Derived.BigRegion
namespace Go.Proofs.YtkpohajmcngjcaaGreatDoor
open Go.ChangeShapes Go.WideShapes Go.ChangeAt Go.RowKit
set_option linter.unusedVariables false
set_option maxRecDepth 100000
set_option linter.unusedSimpArgs false

/-- The number of the first k bytes, modulo the prime. -/
def fl8 (s : ByteArray) : Nat → Int
  | 0 => 0
  | k + 1 => (fl8 s k * 256 + zs s k) % 2130706433
theorem fl8_in (s : ByteArray) (k : Nat) : 0 ≤ fl8 s k ∧ fl8 s k < 2130706433 := by
  cases k with
  | zero => exact ⟨Int.le_refl _, show (0 : Int) < 2130706433 by omega⟩
  | succ k => unfold fl8; omega

set_option maxHeartbeats 1000000 in
theorem sField_any (s : ByteArray) (w : World) (h : 8 ≤ s.size) (hm : (s.size : Int) ≤ 9223372036854775807) :
    Calls Tryz.prog 110 #[.string s] w fun e w' => e = .returned (.int .i64 (fl8 s 8)) ∧ w = w' := by
  go_enter Tryz.func110, Tryz.ntmps110
  go_wp2
  go_loop [3, 4] (fun v i => ∃ (k : Nat) (z : Int), k ≤ 8 ∧ i = .int .i64 k ∧ v = .int .i64 z ∧ Hid (z = fl8 s k)) (fun _ i => 8 - (intOf i).toNat)
  case atStart => exact ⟨0, 0, by omega, rfl, rfl, hik rfl⟩
  case round =>
    obtain ⟨k, z, hk, rfl, rfl, HZ⟩ := hrel
    by_cases hlt : k < 8
    · have hlt' : (k : Int) < 8 := by omega
      have hks : k < s.size := by omega
      have hks' : (k : Int) < (s.size : Int) := by omega
      have z1 := zs_at s k hks
      have zl := zs_lo s k
      have zh := zs_hi s k
      have f0 := fl8_in s k
      rw [← HZ.out] at f0
      have f1 := f0.1
      have f2 := f0.2
      have v1 : (z * 256 + zs s k).tmod 2130706433 = (z * 256 + zs s k) % 2130706433 := Int.tmod_eq_emod_of_nonneg (by omega)
      have HN := hik (show (z * 256 + zs s k) % 2130706433 = fl8 s (k + 1) by rw [HZ.out]; rfl)
      clear f0
      go_wp2
      go_round
      case rel => exact ⟨k + 1, _, by omega, by go_num, rfl, HN⟩
      case measure => simp [intOf]; omega
    · obtain rfl : k = 8 := by omega
      go_wp2
      go_ret
      exact ⟨by rw [HZ.out]; rfl, rfl⟩

end Go.Proofs.YtkpohajmcngjcaaGreatDoor

namespace Go.Proofs.YtkpohajmcngjcaaGreatDoor
open Go.ChangeShapes Go.WideShapes Go.ChangeAt Go.RowKit
set_option linter.unusedVariables false
set_option maxRecDepth 100000
set_option linter.unusedSimpArgs false


end Go.Proofs.YtkpohajmcngjcaaGreatDoor

namespace Go.Proofs.YtkpohajmcngjcaaGreatDoor
open Go.ChangeShapes Go.WideShapes Go.ChangeAt Go.RowKit
set_option linter.unusedVariables false
set_option maxRecDepth 100000
set_option linter.unusedSimpArgs false

set_option maxRecDepth 100000 in
set_option maxHeartbeats 2000000 in
theorem sDrawS_any (c : Option Addr) (len cap m : Nat) (at' : Int) (st : ByteArray) (ct : Int) (f g : Nat → Int) (w : World) (h : Hid (PairV w c len f g)) (hm : m < len) (hl : len ≤ 64) (a0 : 0 ≤ at') (a1 : at' ≤ 1000000) (hmod : at'.tmod (len : Int) = (m : Int)) :
    Calls Tryz.prog 87 #[.agg #[.slice c len cap, .int .i64 at', .string st, .int .i64 ct]] w fun e w' => e = .returned (.tuple #[.agg #[.slice c len cap, .int .i64 (at' + 1), .string st, .int .i64 ct], .agg #[.int .i64 (f m), .int .i64 (g m)]]) ∧ Chg nob w w' := by
  obtain ⟨xb, xo, rfl, hxb, e1, e2⟩ := h.out m hm
  have hl0 : 0 < (len : Int) := by omega
  have hne : ¬ (len : Int) = 0 := by omega
  have hml : (m : Int) < (len : Int) := by omega
  have hn0 : ¬ len = 0 := by omega
  have hp0 : 0 < len := by omega
  go_enter Tryz.func87, Tryz.ntmps87
  go_wp2
  go_region_held3 (fun w' => w'.cell? ⟨w.heap.size, 0, none⟩ = some (.slice (some ⟨xb, xo, none⟩) len cap) ∧ w'.cell? ⟨w.heap.size, 1, none⟩ = some (.int .i64 at') ∧ w'.cell? ⟨xb, xo + m * 2, none⟩ = some (.int .i64 (f m)) ∧ w'.cell? ⟨xb, xo + m * 2 + 1, none⟩ = some (.int .i64 (g m))) (exact ⟨by go_simp, by go_simp, (show Chg nob w _ by repeat (first | with_reducible exact Chg.refl _ _ | with_reducible refine Chg.alloc ?_ _ | with_reducible refine Chg.drewN ?_ _ | with_reducible refine Chg.drew1 ?_ | with_reducible refine Chg.setCell ?_ (fun l => absurd l (by simp <;> omega)) _)).see e1, (show Chg nob w _ by repeat (first | with_reducible exact Chg.refl _ _ | with_reducible refine Chg.alloc ?_ _ | with_reducible refine Chg.drewN ?_ _ | with_reducible refine Chg.drew1 ?_ | with_reducible refine Chg.setCell ?_ (fun l => absurd l (by simp <;> omega)) _)).see e2⟩) (fail)
  rename_i hHeld
  clear hHeld
  go_wp2
  go_region
  go_wp2
  exact bodyPost_ret (v := .tuple #[.agg #[.slice (some ⟨xb, xo, none⟩) len cap, .int .i64 (at' + 1), .string st, .int .i64 ct], .agg #[.int .i64 (f m), .int .i64 (g m)]]) (by simp [results, Tryz.results87, go_sem]) rfl ⟨rfl, (by repeat (first | with_reducible exact Chg.refl _ _ | with_reducible refine Chg.alloc ?_ _ | with_reducible refine Chg.drewN ?_ _ | with_reducible refine Chg.drew1 ?_ | with_reducible refine Chg.setCell ?_ (fun l => absurd l (by simp <;> omega)) _))⟩

/-- What is hashed for a draw. -/
def drT (st : ByteArray) (ct : Int) : ByteArray := st ++ ⟨#[100, 114, 97, 119]⟩ ++ be4 ct
def drH (st : ByteArray) (ct : Int) : ByteArray := hsh (drT st ct)
theorem drT_size (st : ByteArray) (ct : Int) : (drT st ct).size = st.size + 8 := by
  unfold drT
  rw [ByteArray.size_append, ByteArray.size_append, be4_size]; rfl
theorem row2_s0 {W : World} {g : Nat} {ty : TypeId} {f : Nat → Value} (h : W.rowIs g ty 2 f) (u : Value) : (W.setCell ⟨g, 0, none⟩ u).cell? ⟨g, 0, none⟩ = some u := by
  have := (h.set 0 u).cell (show 0 < 2 by omega); simpa using this
theorem row2_s1 {W : World} {g : Nat} {ty : TypeId} {f : Nat → Value} (h : W.rowIs g ty 2 f) (u v : Value) : ((W.setCell ⟨g, 0, none⟩ u).setCell ⟨g, 1, none⟩ v).cell? ⟨g, 1, none⟩ = some v := by
  have := ((h.set 0 u).set 1 v).cell (show 1 < 2 by omega); simpa using this
/-- What is drawn. -/
def drA (st : ByteArray) (ct : Int) : Int := fl8 ((drH st ct).extract 0 8) 8
def drB (st : ByteArray) (ct : Int) : Int := fl8 ((drH st ct).extract 8 16) 8

set_option maxRecDepth 100000 in
set_option maxHeartbeats 2000000 in
theorem sDrawH_any (c : Option Addr) (cap : Nat) (at' : Int) (st : ByteArray) (ct : Int) (w : World) (hst : st.size = 32) (c0 : 0 ≤ ct) (c1 : ct ≤ 1000000) :
    Calls Tryz.prog 87 #[.agg #[.slice c 0 cap, .int .i64 at', .string st, .int .i64 ct]] w fun e w' => e = .returned (.tuple #[.agg #[.slice c 0 cap, .int .i64 at', .string st, .int .i64 (ct + 1)], .agg #[.int .i64 (drA st ct), .int .i64 (drB st ct)]]) ∧ Chg nob w w' := by
  have hb4 : (be4 ct).size = 4 := be4_size _
  have hsz : (drT st ct).size ≤ 1048576 := by rw [drT_size]; omega
  have HSZ := hik hsz
  clear hsz
  obtain ⟨h, hh⟩ : ∃ h, h = drH st ct := ⟨_, rfl⟩
  have hs32 : h.size = 32 := by rw [hh]; exact hsh_size _
  have HH := hik hh
  have EA := hik (show drA st ct = fl8 (h.extract 0 8) 8 by unfold drA; rw [hh])
  have EB := hik (show drB st ct = fl8 (h.extract 8 16) 8 by unfold drB; rw [hh])
  have q0 : (h.extract 0 8).size = 8 := by rw [ByteArray.size_extract]; omega
  have q1 : (h.extract 8 16).size = 8 := by rw [ByteArray.size_extract]; omega
  clear hh
  go_enter Tryz.func87, Tryz.ntmps87
  go_upto_region 5 with fail
  go_cut [5] from 10 (fun v W => v = .string h ∧ Hid (W.rowIs w.heap.size 35 4 (pv4 (.slice c 0 cap) (.int .i64 at') (.string st) (.int .i64 ct))) ∧ Hid (W.rowIs (w.heap.size + 1) 35 4 (pv4 (.slice none 0 0) (.int .i64 0) (.string ⟨#[]⟩) (.int .i64 0))) ∧ Hid (W.rowIs (w.heap.size + 2) 62 2 (pv2 (.int .i64 0) (.int .i64 0))) ∧ Hid (Chg nob w W))
  case first =>
    refine wp_region_held_drew (S := fun w' => w'.cell? ⟨w.heap.size, 2, none⟩ = some (.string st) ∧ w'.cell? ⟨w.heap.size, 3, none⟩ = some (.int .i64 ct)) (by kernel_rfl) ⟨by go_simp, by go_simp⟩ (fun hHeld => ?_)
    refine wpAnyH_take (i := 0) (v := ?_) rfl (by kernel_rfl) (by kernel_rfl) (by kernel_rfl) (fun _ _ _ h => h) (Or.inl ⟨by rfl, ?_⟩) (by assumption) ?_
    rotate_left 1
    · (intro w' hSw; (try dsimp only at hSw); go_simp; try with_reducible rfl)
    try simp only [Act.put, List.setIfInBounds_toArray, List.set_cons_zero, List.set_cons_succ, List.getElem_toArray, List.getElem_cons_zero, List.getElem_cons_succ]
    refine wpAnyH_take (i := 1) (v := ?_) rfl (by kernel_rfl) (by kernel_rfl) (by kernel_rfl) (fun _ _ _ h => h) (Or.inl ⟨by rfl, ?_⟩) (by assumption) ?_
    rotate_left 1
    · (intro w' hSw; (try dsimp only at hSw); go_simp; try with_reducible rfl)
    try simp only [Act.put, List.setIfInBounds_toArray, List.set_cons_zero, List.set_cons_succ, List.getElem_toArray, List.getElem_cons_zero, List.getElem_cons_succ]
    refine wpAnyH_take (i := 2) (v := ?_) rfl (by kernel_rfl) (by kernel_rfl) (by kernel_rfl) (fun _ _ _ h => h) (Or.inl ⟨by rfl, ?_⟩) (by assumption) ?_
    rotate_left 1
    · (intro w' hSw; (try dsimp only at hSw); go_simp; try with_reducible rfl)
    try simp only [Act.put, List.setIfInBounds_toArray, List.set_cons_zero, List.set_cons_succ, List.getElem_toArray, List.getElem_cons_zero, List.getElem_cons_succ]
    refine wpAnyH_take (i := 3) (v := ?_) rfl (by kernel_rfl) (by kernel_rfl) (by kernel_rfl) (fun _ _ _ h => h) (Or.inl ⟨by rfl, ?_⟩) (by assumption) ?_
    rotate_left 1
    · (intro w' hSw; (try dsimp only at hSw); go_simp; try with_reducible rfl)
    try simp only [Act.put, List.setIfInBounds_toArray, List.set_cons_zero, List.set_cons_succ, List.getElem_toArray, List.getElem_cons_zero, List.getElem_cons_succ]
    refine wpAnyH_take (i := 4) (v := ?_) rfl (by kernel_rfl) (by kernel_rfl) (by kernel_rfl) (fun _ _ _ h => h) (Or.inl ⟨by rfl, ?_⟩) (by assumption) ?_
    rotate_left 1
    · (intro w' hSw; (try dsimp only at hSw); go_simp; try with_reducible rfl)
    try simp only [Act.put, List.setIfInBounds_toArray, List.set_cons_zero, List.set_cons_succ, List.getElem_toArray, List.getElem_cons_zero, List.getElem_cons_succ]
    refine wpAnyH_ready (rs := [5]) (by kernel_rfl) (by simp) ?_
    refine AllReadyH.cons rfl (fun K hK => ?_) AllReadyH.nil
    refine stepL_callN 69 #[.tmp 30, .const (.int .i64 4)] #[3, 3] (by rfl) (by rfl) #[.int .i64 ct, .int .i64 4] (by simp only [List.map_toArray, List.map_cons, List.map_nil]; rfl) (run_go Tryz.func69 (by kernel_rfl) (by kernel_rfl) _ _) (l02Number_any ct _ (by omega) (by omega)) ?_
    rintro e W1 ⟨b1, p1, hb1, he, hcells, k1⟩
    refine ⟨_, he, ?_⟩
    refine hK.out _ _ ⟨k1.see hHeld.1, k1.see hHeld.2⟩ (fun hHeld => ?_)
    clear hK K
    try simp only [Act.put, List.setIfInBounds_toArray, List.set_cons_zero, List.set_cons_succ, List.getElem_toArray, List.getElem_cons_zero, List.getElem_cons_succ]
    have K1 := hik k1
    have hcv := convB (some ⟨b1, 0, none⟩) 4 p1 (wb ct) W1 (four_row (World.block_lt_of_cell? W1 _ (hcells 0 _ rfl)) hcells)
    have hcv : (convert 53 9 (.slice (some ⟨b1, 0, none⟩) 4 p1)).run Tryz.prog W1 = .ok (.string (be4 ct)) W1 := hcv
    clear he hcells k1 hb1
    refine wpAnyH_ready (rs := [6]) (by kernel_rfl) (by simp) ?_
    refine AllReadyH.cons rfl (fun K hK => ?_) AllReadyH.nil
    refine stepL_conv 53 9 (.tmp 31) (by rfl) (by rfl) _ _ _ (by rfl) hcv ?_
    refine hK.out _ _ hHeld (fun hHeld => ?_)
    clear hK K
    try simp only [Act.put, List.setIfInBounds_toArray, List.set_cons_zero, List.set_cons_succ, List.getElem_toArray, List.getElem_cons_zero, List.getElem_cons_succ]
    clear hcv
    refine wpAnyH_take (i := 7) (v := ?_) rfl (by kernel_rfl) (by kernel_rfl) (by kernel_rfl) (fun _ _ _ h => h) (Or.inl ⟨by rfl, ?_⟩) (by assumption) ?_
    rotate_left 1
    · (intro w' hSw; (try dsimp only at hSw); go_simp; try with_reducible rfl)
    try simp only [Act.put, List.setIfInBounds_toArray, List.set_cons_zero, List.set_cons_succ, List.getElem_toArray, List.getElem_cons_zero, List.getElem_cons_succ]
    refine wpAnyH_ready (rs := [8]) (by kernel_rfl) (by simp) ?_
    refine AllReadyH.cons rfl (fun K hK => ?_) AllReadyH.nil
    refine stepL_callN 103 #[.tmp 33] #[9] (by rfl) (by rfl) #[.string (drT st ct)] (by simp only [List.map_toArray, List.map_cons, List.map_nil]; rfl) (run_go Tryz.func103 (by kernel_rfl) (by kernel_rfl) _ _) (sHash_any (drT st ct) _ HSZ.out) ?_
    rintro e W2 ⟨he, k2⟩
    have he : e = .returned (.string h) := by rw [HH.out]; exact he
    refine ⟨_, he, ?_⟩
    refine hK.out _ _ ⟨k2.see hHeld.1, k2.see hHeld.2⟩ (fun hHeld => ?_)
    clear hK K
    try simp only [Act.put, List.setIfInBounds_toArray, List.set_cons_zero, List.set_cons_succ, List.getElem_toArray, List.getElem_cons_zero, List.getElem_cons_succ]
    clear he
    have KK : Chg nob (((w.alloc (.cells #[.slice c 0 cap, .int .i64 at', .string st, .int .i64 ct] 35)).alloc (.cells #[.slice none 0 0, .int .i64 0, .string ⟨#[]⟩, .int .i64 0] 35)).alloc (.cells #[.int .i64 0, .int .i64 0] 62)) W2 := (Chg.refl nob _).drew1.trans (K1.out.trans k2)
    have G2 := hik (((((Chg.refl nob w).alloc (.cells #[.slice c 0 cap, .int .i64 at', .string st, .int .i64 ct] 35)).alloc (.cells #[.slice none 0 0, .int .i64 0, .string ⟨#[]⟩, .int .i64 0] 35)).alloc (.cells #[.int .i64 0, .int .i64 0] 62)).trans KK)
    have R0 := hik (rowIs_keep (World.rowIs.alloc (World.rowIs.alloc (row4_new w (.slice c 0 cap) (.int .i64 at') (.string st) (.int .i64 ct) 35) (.cells #[.slice none 0 0, .int .i64 0, .string ⟨#[]⟩, .int .i64 0] 35)) (.cells #[.int .i64 0, .int .i64 0] 62)) KK)
    have R1 : Hid (W2.rowIs (w.heap.size + 1) 35 4 (pv4 (.slice none 0 0) (.int .i64 0) (.string ⟨#[]⟩) (.int .i64 0))) := hik (by have q := rowIs_keep (World.rowIs.alloc (row4_new (w.alloc (.cells #[.slice c 0 cap, .int .i64 at', .string st, .int .i64 ct] 35)) (.slice none 0 0) (.int .i64 0) (.string ⟨#[]⟩) (.int .i64 0) 35) (.cells #[.int .i64 0, .int .i64 0] 62)) KK; simpa using q)
    have R2 : Hid (W2.rowIs (w.heap.size + 2) 62 2 (pv2 (.int .i64 0) (.int .i64 0))) := hik (by have q := rowIs_keep (row2_new ((w.alloc (.cells #[.slice c 0 cap, .int .i64 at', .string st, .int .i64 ct] 35)).alloc (.cells #[.slice none 0 0, .int .i64 0, .string ⟨#[]⟩, .int .i64 0] 35)) (.int .i64 0) (.int .i64 0) 62) KK; simpa using q)
    refine wpAnyH_take (i := 9) (v := ?_) rfl (by kernel_rfl) (by kernel_rfl) (by kernel_rfl) (fun _ _ _ h => h) (Or.inl ⟨by rfl, ?_⟩) (by assumption) ?_
    rotate_left 1
    · (intro w' hSw; (try dsimp only at hSw); go_simp; try with_reducible rfl)
    try simp only [Act.put, List.setIfInBounds_toArray, List.set_cons_zero, List.set_cons_succ, List.getElem_toArray, List.getElem_cons_zero, List.getElem_cons_succ]
    refine wpAnyH_done (by kernel_rfl) ?_ _
    go_wp2_with fail
    go_meet
    case rel => exact ⟨rfl, R0, R1, R2, G2⟩
  case rest =>
    obtain ⟨rfl, R0, R1, R2, G2⟩ := hcut
    have x0 : wc.cell? ⟨w.heap.size, 0, none⟩ = some (.slice c 0 cap) := R0.out.cell (by omega)
    have x1 : wc.cell? ⟨w.heap.size, 1, none⟩ = some (.int .i64 at') := R0.out.cell (by omega)
    have x2 : wc.cell? ⟨w.heap.size, 2, none⟩ = some (.string st) := R0.out.cell (by omega)
    have x3 : wc.cell? ⟨w.heap.size, 3, none⟩ = some (.int .i64 ct) := R0.out.cell (by omega)
    have f3 := R0.out.frozen 3
    go_wp2
    have T0 := hik ((World.rowIs.set R0.out 3 (.int .i64 (ct + 1))).congr (g := pv4 (.slice c 0 cap) (.int .i64 at') (.string st) (.int .i64 (ct + 1))) (fun i hi => by
      match i, hi with
      | 0, _ => rfl
      | 1, _ => rfl
      | 2, _ => rfl
      | 3, _ => rfl))
    have T1 := hik (World.rowIs.setOther (a := ⟨w.heap.size, 3, none⟩) R1.out (by simp) (.int .i64 (ct + 1)))
    have T2 := hik (World.rowIs.setOther (a := ⟨w.heap.size, 3, none⟩) R2.out (by simp) (.int .i64 (ct + 1)))
    have G3 := hik (G2.out.setCell (p := ⟨w.heap.size, 3, none⟩) (fun l => absurd l (by simp)) (.int .i64 (ct + 1)))
    clear x0 x1 x2 x3 f3 R0 R1 R2 G2
    obtain ⟨U, hU⟩ : ∃ U, U = wc.setCell ⟨w.heap.size, 3, none⟩ (.int .i64 (ct + 1)) := ⟨_, rfl⟩
    rw [← hU] at T0 T1 T2 G3
    rw [← hU]
    clear hU
    have x0 : U.cell? ⟨w.heap.size, 0, none⟩ = some (.slice c 0 cap) := T0.out.cell (by omega)
    have x1 : U.cell? ⟨w.heap.size, 1, none⟩ = some (.int .i64 at') := T0.out.cell (by omega)
    have x2 : U.cell? ⟨w.heap.size, 2, none⟩ = some (.string st) := T0.out.cell (by omega)
    have x3 : U.cell? ⟨w.heap.size, 3, none⟩ = some (.int .i64 (ct + 1)) := T0.out.cell (by omega)
    have y0 : U.cell? ⟨w.heap.size + 1, 0, none⟩ = some (.slice none 0 0) := T1.out.cell (by omega)
    have y1 : U.cell? ⟨w.heap.size + 1, 1, none⟩ = some (.int .i64 0) := T1.out.cell (by omega)
    have y2 : U.cell? ⟨w.heap.size + 1, 2, none⟩ = some (.string ⟨#[]⟩) := T1.out.cell (by omega)
    have y3 : U.cell? ⟨w.heap.size + 1, 3, none⟩ = some (.int .i64 0) := T1.out.cell (by omega)
    have z0 : U.cell? ⟨w.heap.size + 2, 0, none⟩ = some (.int .i64 0) := T2.out.cell (by omega)
    have z1 : U.cell? ⟨w.heap.size + 2, 1, none⟩ = some (.int .i64 0) := T2.out.cell (by omega)
    have g0 := T1.out.frozen 0
    have g1 := T1.out.frozen 1
    have g2 := T1.out.frozen 2
    have g3 := T1.out.frozen 3
    have j0 := T2.out.frozen 0
    have j1 := T2.out.frozen 1
    refine wp_region_held_drew (S := fun _ => True) (by kernel_rfl) True.intro (fun hHeld => ?_)
    refine wpAnyH_take (i := 1) (v := ?_) rfl (by kernel_rfl) (by kernel_rfl) (by kernel_rfl) (fun _ _ _ h => h) (Or.inl ⟨by rfl, ?_⟩) (by assumption) ?_
    rotate_left 1
    · (intro w' hSw; (try dsimp only at hSw); go_simp; try with_reducible rfl)
    try simp only [Act.put, List.setIfInBounds_toArray, List.set_cons_zero, List.set_cons_succ, List.getElem_toArray, List.getElem_cons_zero, List.getElem_cons_succ]
    refine wpAnyH_take (i := 2) (v := ?_) rfl (by kernel_rfl) (by kernel_rfl) (by kernel_rfl) (fun _ _ _ h => h) (Or.inl ⟨by rfl, ?_⟩) (by assumption) ?_
    rotate_left 1
    · (intro w' hSw; (try dsimp only at hSw); go_simp; try with_reducible rfl)
    try simp only [Act.put, List.setIfInBounds_toArray, List.set_cons_zero, List.set_cons_succ, List.getElem_toArray, List.getElem_cons_zero, List.getElem_cons_succ]
    refine wpAnyH_take (i := 4) (v := ?_) rfl (by kernel_rfl) (by kernel_rfl) (by kernel_rfl) (fun _ _ _ h => h) (Or.inl ⟨by rfl, ?_⟩) (by assumption) ?_
    rotate_left 1
    · (intro w' hSw; (try dsimp only at hSw); go_simp; try with_reducible rfl)
    try simp only [Act.put, List.setIfInBounds_toArray, List.set_cons_zero, List.set_cons_succ, List.getElem_toArray, List.getElem_cons_zero, List.getElem_cons_succ]
    refine wpAnyH_take (i := 5) (v := ?_) rfl (by kernel_rfl) (by kernel_rfl) (by kernel_rfl) (fun _ _ _ h => h) (Or.inl ⟨by rfl, ?_⟩) (by assumption) ?_
    rotate_left 1
    · (intro w' hSw; (try dsimp only at hSw); go_simp; try with_reducible rfl)
    try simp only [Act.put, List.setIfInBounds_toArray, List.set_cons_zero, List.set_cons_succ, List.getElem_toArray, List.getElem_cons_zero, List.getElem_cons_succ]
    refine wpAnyH_ready (rs := [0, 3]) (by kernel_rfl) (by simp) ?_
    refine AllReadyH.cons rfl (fun K hK => ?_) ?_
    · simp only [List.getElem_toArray, List.getElem_cons_zero, List.getElem_cons_succ]
      go_simp
      refine hK.out _ _ True.intro (fun hHeld => ?_)
      clear hK K
      try simp only [Act.put, List.setIfInBounds_toArray, List.set_cons_zero, List.set_cons_succ, List.getElem_toArray, List.getElem_cons_zero, List.getElem_cons_succ]
      refine wpAnyH_ready (rs := [3]) (by kernel_rfl) (by simp) ?_
      refine AllReadyH.cons rfl (fun K hK => ?_) AllReadyH.nil
      refine stepL_callN 110 #[.tmp 41] #[9] (by rfl) (by rfl) #[.string (h.extract 0 8)] (by simp only [List.map_toArray, List.map_cons, List.map_nil]; rfl) (run_go Tryz.func110 (by kernel_rfl) (by kernel_rfl) _ _) (sField_any (h.extract 0 8) _ (by omega) (by omega)) ?_
      rintro e W8 ⟨he, hw⟩
      subst hw
      refine ⟨_, he, ?_⟩
      refine hK.out _ _ True.intro (fun hHeld => ?_)
      clear hK K
      try simp only [Act.put, List.setIfInBounds_toArray, List.set_cons_zero, List.set_cons_succ, List.getElem_toArray, List.getElem_cons_zero, List.getElem_cons_succ]
      clear he
      refine wpAnyH_ready (rs := [6]) (by kernel_rfl) (by simp) ?_
      refine AllReadyH.cons rfl (fun K hK => ?_) AllReadyH.nil
      refine stepL_callN 110 #[.tmp 44] #[9] (by rfl) (by rfl) #[.string (h.extract 8 16)] (by simp only [List.map_toArray, List.map_cons, List.map_nil]; rfl) (run_go Tryz.func110 (by kernel_rfl) (by kernel_rfl) _ _) (sField_any (h.extract 8 16) _ (by omega) (by omega)) ?_
      rintro e W8 ⟨he, hw⟩
      subst hw
      refine ⟨_, he, ?_⟩
      refine hK.out _ _ True.intro (fun hHeld => ?_)
      clear hK K
      try simp only [Act.put, List.setIfInBounds_toArray, List.set_cons_zero, List.set_cons_succ, List.getElem_toArray, List.getElem_cons_zero, List.getElem_cons_succ]
      clear he
      refine wpAnyH_take (i := 7) (v := ?_) rfl (by kernel_rfl) (by kernel_rfl) (by kernel_rfl) (fun _ _ _ h => h) (Or.inl ⟨by rfl, ?_⟩) (by assumption) ?_
      rotate_left 1
      · (intro w' hSw; (try dsimp only at hSw); go_simp; try with_reducible rfl)
      try simp only [Act.put, List.setIfInBounds_toArray, List.set_cons_zero, List.set_cons_succ, List.getElem_toArray, List.getElem_cons_zero, List.getElem_cons_succ]
      refine wpAnyH_ready (rs := [8]) (by kernel_rfl) (by simp) ?_
      refine AllReadyH.cons rfl (fun K hK => ?_) AllReadyH.nil
      simp only [List.getElem_toArray, List.getElem_cons_zero, List.getElem_cons_succ]
      go_simp
      refine hK.out _ _ True.intro (fun hHeld => ?_)
      clear hK K
      try simp only [Act.put, List.setIfInBounds_toArray, List.set_cons_zero, List.set_cons_succ, List.getElem_toArray, List.getElem_cons_zero, List.getElem_cons_succ]
      refine wpAnyH_ready (rs := [9]) (by kernel_rfl) (by simp) ?_
      refine AllReadyH.cons rfl (fun K hK => ?_) AllReadyH.nil
      simp only [List.getElem_toArray, List.getElem_cons_zero, List.getElem_cons_succ]
      go_simp
      refine hK.out _ _ True.intro (fun hHeld => ?_)
      clear hK K
      try simp only [Act.put, List.setIfInBounds_toArray, List.set_cons_zero, List.set_cons_succ, List.getElem_toArray, List.getElem_cons_zero, List.getElem_cons_succ]
      refine wpAnyH_done (by kernel_rfl) ?_ _
      go_wp2
      have T3 : Hid (((((U.setCell ⟨w.heap.size + 1, 0, none⟩ (.slice c 0 cap)).setCell ⟨w.heap.size + 1, 1, none⟩ (.int .i64 at')).setCell ⟨w.heap.size + 1, 2, none⟩ (.string st)).setCell ⟨w.heap.size + 1, 3, none⟩ (.int .i64 (ct + 1))).rowIs (w.heap.size + 1 + 1) 62 2 (pv2 (.int .i64 0) (.int .i64 0))) := hik (World.rowIs.setOther (a := ⟨w.heap.size + 1, 3, none⟩) (World.rowIs.setOther (a := ⟨w.heap.size + 1, 2, none⟩) (World.rowIs.setOther (a := ⟨w.heap.size + 1, 1, none⟩) (World.rowIs.setOther (a := ⟨w.heap.size + 1, 0, none⟩) T2.out (by simp) _) (by simp) _) (by simp) _) (by simp) _)
      exact bodyPost_ret (v := .tuple #[.agg #[.slice c 0 cap, .int .i64 at', .string st, .int .i64 (ct + 1)], .agg #[.int .i64 (fl8 (h.extract 0 8) 8), .int .i64 (fl8 (h.extract 8 16) 8)]]) (by simp [results, Tryz.results87, go_sem, row4_s0 T1.out (.slice c 0 cap), row4_s1 T1.out (.slice c 0 cap) (.int .i64 at'), row4_s2 T1.out (.slice c 0 cap) (.int .i64 at') (.string st), row4_s3 T1.out (.slice c 0 cap) (.int .i64 at') (.string st) (.int .i64 (ct + 1)), row2_s0 T3.out (.int .i64 (fl8 (h.extract 0 8) 8)), row2_s1 T3.out (.int .i64 (fl8 (h.extract 0 8) 8)) (.int .i64 (fl8 (h.extract 8 16) 8))]) rfl ⟨by rw [EA.out, EB.out], by repeat (first | with_reducible exact G3.out | with_reducible refine Chg.drew1 ?_ | with_reducible refine Chg.setCell ?_ (fun l => absurd l (by simp <;> omega)) _)⟩
    · refine AllReadyH.cons rfl (fun K hK => ?_) AllReadyH.nil
      refine stepL_callN 110 #[.tmp 41] #[9] (by rfl) (by rfl) #[.string (h.extract 0 8)] (by simp only [List.map_toArray, List.map_cons, List.map_nil]; rfl) (run_go Tryz.func110 (by kernel_rfl) (by kernel_rfl) _ _) (sField_any (h.extract 0 8) _ (by omega) (by omega)) ?_
      rintro e W8 ⟨he, hw⟩
      subst hw
      refine ⟨_, he, ?_⟩
      refine hK.out _ _ True.intro (fun hHeld => ?_)
      clear hK K
      try simp only [Act.put, List.setIfInBounds_toArray, List.set_cons_zero, List.set_cons_succ, List.getElem_toArray, List.getElem_cons_zero, List.getElem_cons_succ]
      clear he
      refine wpAnyH_ready (rs := [0, 6]) (by kernel_rfl) (by simp) ?_
      refine AllReadyH.cons rfl (fun K hK => ?_) ?_
      · simp only [List.getElem_toArray, List.getElem_cons_zero, List.getElem_cons_succ]
        go_simp
        refine hK.out _ _ True.intro (fun hHeld => ?_)
        clear hK K
        try simp only [Act.put, List.setIfInBounds_toArray, List.set_cons_zero, List.set_cons_succ, List.getElem_toArray, List.getElem_cons_zero, List.getElem_cons_succ]
        refine wpAnyH_ready (rs := [6]) (by kernel_rfl) (by simp) ?_
        refine AllReadyH.cons rfl (fun K hK => ?_) AllReadyH.nil
        refine stepL_callN 110 #[.tmp 44] #[9] (by rfl) (by rfl) #[.string (h.extract 8 16)] (by simp only [List.map_toArray, List.map_cons, List.map_nil]; rfl) (run_go Tryz.func110 (by kernel_rfl) (by kernel_rfl) _ _) (sField_any (h.extract 8 16) _ (by omega) (by omega)) ?_
        rintro e W8 ⟨he, hw⟩
        subst hw
        refine ⟨_, he, ?_⟩
        refine hK.out _ _ True.intro (fun hHeld => ?_)
        clear hK K
        try simp only [Act.put, List.setIfInBounds_toArray, List.set_cons_zero, List.set_cons_succ, List.getElem_toArray, List.getElem_cons_zero, List.getElem_cons_succ]
        clear he
        refine wpAnyH_take (i := 7) (v := ?_) rfl (by kernel_rfl) (by kernel_rfl) (by kernel_rfl) (fun _ _ _ h => h) (Or.inl ⟨by rfl, ?_⟩) (by assumption) ?_
        rotate_left 1
        · (intro w' hSw; (try dsimp only at hSw); go_simp; try with_reducible rfl)
        try simp only [Act.put, List.setIfInBounds_toArray, List.set_cons_zero, List.set_cons_succ, List.getElem_toArray, List.getElem_cons_zero, List.getElem_cons_succ]
        refine wpAnyH_ready (rs := [8]) (by kernel_rfl) (by simp) ?_
        refine AllReadyH.cons rfl (fun K hK => ?_) AllReadyH.nil
        simp only [List.getElem_toArray, List.getElem_cons_zero, List.getElem_cons_succ]
        go_simp
        refine hK.out _ _ True.intro (fun hHeld => ?_)
        clear hK K
        try simp only [Act.put, List.setIfInBounds_toArray, List.set_cons_zero, List.set_cons_succ, List.getElem_toArray, List.getElem_cons_zero, List.getElem_cons_succ]
        refine wpAnyH_ready (rs := [9]) (by kernel_rfl) (by simp) ?_
        refine AllReadyH.cons rfl (fun K hK => ?_) AllReadyH.nil
        simp only [List.getElem_toArray, List.getElem_cons_zero, List.getElem_cons_succ]
        go_simp
        refine hK.out _ _ True.intro (fun hHeld => ?_)
        clear hK K
        try simp only [Act.put, List.setIfInBounds_toArray, List.set_cons_zero, List.set_cons_succ, List.getElem_toArray, List.getElem_cons_zero, List.getElem_cons_succ]
        refine wpAnyH_done (by kernel_rfl) ?_ _
        go_wp2
        have T3 : Hid (((((U.setCell ⟨w.heap.size + 1, 0, none⟩ (.slice c 0 cap)).setCell ⟨w.heap.size + 1, 1, none⟩ (.int .i64 at')).setCell ⟨w.heap.size + 1, 2, none⟩ (.string st)).setCell ⟨w.heap.size + 1, 3, none⟩ (.int .i64 (ct + 1))).rowIs (w.heap.size + 1 + 1) 62 2 (pv2 (.int .i64 0) (.int .i64 0))) := hik (World.rowIs.setOther (a := ⟨w.heap.size + 1, 3, none⟩) (World.rowIs.setOther (a := ⟨w.heap.size + 1, 2, none⟩) (World.rowIs.setOther (a := ⟨w.heap.size + 1, 1, none⟩) (World.rowIs.setOther (a := ⟨w.heap.size + 1, 0, none⟩) T2.out (by simp) _) (by simp) _) (by simp) _) (by simp) _)
        exact bodyPost_ret (v := .tuple #[.agg #[.slice c 0 cap, .int .i64 at', .string st, .int .i64 (ct + 1)], .agg #[.int .i64 (fl8 (h.extract 0 8) 8), .int .i64 (fl8 (h.extract 8 16) 8)]]) (by simp [results, Tryz.results87, go_sem, row4_s0 T1.out (.slice c 0 cap), row4_s1 T1.out (.slice c 0 cap) (.int .i64 at'), row4_s2 T1.out (.slice c 0 cap) (.int .i64 at') (.string st), row4_s3 T1.out (.slice c 0 cap) (.int .i64 at') (.string st) (.int .i64 (ct + 1)), row2_s0 T3.out (.int .i64 (fl8 (h.extract 0 8) 8)), row2_s1 T3.out (.int .i64 (fl8 (h.extract 0 8) 8)) (.int .i64 (fl8 (h.extract 8 16) 8))]) rfl ⟨by rw [EA.out, EB.out], by repeat (first | with_reducible exact G3.out | with_reducible refine Chg.drew1 ?_ | with_reducible refine Chg.setCell ?_ (fun l => absurd l (by simp <;> omega)) _)⟩
      · refine AllReadyH.cons rfl (fun K hK => ?_) AllReadyH.nil
        refine stepL_callN 110 #[.tmp 44] #[9] (by rfl) (by rfl) #[.string (h.extract 8 16)] (by simp only [List.map_toArray, List.map_cons, List.map_nil]; rfl) (run_go Tryz.func110 (by kernel_rfl) (by kernel_rfl) _ _) (sField_any (h.extract 8 16) _ (by omega) (by omega)) ?_
        rintro e W8 ⟨he, hw⟩
        subst hw
        refine ⟨_, he, ?_⟩
        refine hK.out _ _ True.intro (fun hHeld => ?_)
        clear hK K
        try simp only [Act.put, List.setIfInBounds_toArray, List.set_cons_zero, List.set_cons_succ, List.getElem_toArray, List.getElem_cons_zero, List.getElem_cons_succ]
        clear he
        refine wpAnyH_take (i := 7) (v := ?_) rfl (by kernel_rfl) (by kernel_rfl) (by kernel_rfl) (fun _ _ _ h => h) (Or.inl ⟨by rfl, ?_⟩) (by assumption) ?_
        rotate_left 1
        · (intro w' hSw; (try dsimp only at hSw); go_simp; try with_reducible rfl)
        try simp only [Act.put, List.setIfInBounds_toArray, List.set_cons_zero, List.set_cons_succ, List.getElem_toArray, List.getElem_cons_zero, List.getElem_cons_succ]
        refine wpAnyH_ready (rs := [0]) (by kernel_rfl) (by simp) ?_
        refine AllReadyH.cons rfl (fun K hK => ?_) AllReadyH.nil
        simp only [List.getElem_toArray, List.getElem_cons_zero, List.getElem_cons_succ]
        go_simp
        refine hK.out _ _ True.intro (fun hHeld => ?_)
        clear hK K
        try simp only [Act.put, List.setIfInBounds_toArray, List.set_cons_zero, List.set_cons_succ, List.getElem_toArray, List.getElem_cons_zero, List.getElem_cons_succ]
        refine wpAnyH_ready (rs := [8]) (by kernel_rfl) (by simp) ?_
        refine AllReadyH.cons rfl (fun K hK => ?_) AllReadyH.nil
        simp only [List.getElem_toArray, List.getElem_cons_zero, List.getElem_cons_succ]
        go_simp
        refine hK.out _ _ True.intro (fun hHeld => ?_)
        clear hK K
        try simp only [Act.put, List.setIfInBounds_toArray, List.set_cons_zero, List.set_cons_succ, List.getElem_toArray, List.getElem_cons_zero, List.getElem_cons_succ]
        refine wpAnyH_ready (rs := [9]) (by kernel_rfl) (by simp) ?_
        refine AllReadyH.cons rfl (fun K hK => ?_) AllReadyH.nil
        simp only [List.getElem_toArray, List.getElem_cons_zero, List.getElem_cons_succ]
        go_simp
        refine hK.out _ _ True.intro (fun hHeld => ?_)
        clear hK K
        try simp only [Act.put, List.setIfInBounds_toArray, List.set_cons_zero, List.set_cons_succ, List.getElem_toArray, List.getElem_cons_zero, List.getElem_cons_succ]
        refine wpAnyH_done (by kernel_rfl) ?_ _
        go_wp2
        have T3 : Hid (((((U.setCell ⟨w.heap.size + 1, 0, none⟩ (.slice c 0 cap)).setCell ⟨w.heap.size + 1, 1, none⟩ (.int .i64 at')).setCell ⟨w.heap.size + 1, 2, none⟩ (.string st)).setCell ⟨w.heap.size + 1, 3, none⟩ (.int .i64 (ct + 1))).rowIs (w.heap.size + 1 + 1) 62 2 (pv2 (.int .i64 0) (.int .i64 0))) := hik (World.rowIs.setOther (a := ⟨w.heap.size + 1, 3, none⟩) (World.rowIs.setOther (a := ⟨w.heap.size + 1, 2, none⟩) (World.rowIs.setOther (a := ⟨w.heap.size + 1, 1, none⟩) (World.rowIs.setOther (a := ⟨w.heap.size + 1, 0, none⟩) T2.out (by simp) _) (by simp) _) (by simp) _) (by simp) _)
        exact bodyPost_ret (v := .tuple #[.agg #[.slice c 0 cap, .int .i64 at', .string st, .int .i64 (ct + 1)], .agg #[.int .i64 (fl8 (h.extract 0 8) 8), .int .i64 (fl8 (h.extract 8 16) 8)]]) (by simp [results, Tryz.results87, go_sem, row4_s0 T1.out (.slice c 0 cap), row4_s1 T1.out (.slice c 0 cap) (.int .i64 at'), row4_s2 T1.out (.slice c 0 cap) (.int .i64 at') (.string st), row4_s3 T1.out (.slice c 0 cap) (.int .i64 at') (.string st) (.int .i64 (ct + 1)), row2_s0 T3.out (.int .i64 (fl8 (h.extract 0 8) 8)), row2_s1 T3.out (.int .i64 (fl8 (h.extract 0 8) 8)) (.int .i64 (fl8 (h.extract 8 16) 8))]) rfl ⟨by rw [EA.out, EB.out], by repeat (first | with_reducible exact G3.out | with_reducible refine Chg.drew1 ?_ | with_reducible refine Chg.setCell ?_ (fun l => absurd l (by simp <;> omega)) _)⟩

end Go.Proofs.YtkpohajmcngjcaaGreatDoor

namespace Go.Proofs.YtkpohajmcngjcaaGreatDoor
open Go.ChangeShapes Go.WideShapes Go.ChangeAt Go.RowKit
set_option linter.unusedVariables false
set_option maxRecDepth 100000
set_option linter.unusedSimpArgs false

/-- The two numbers of a source behind k draws. -/
def dnA (len : Nat) (a : Int) (k : Nat) : Int := if 0 < len then a + k else a
def dnC (len : Nat) (c : Int) (k : Nat) : Int := if 0 < len then c else c + k
/-- Its k-th draw from here. -/
def drE (f : Nat → Int) (len : Nat) (a : Int) (st : ByteArray) (ct : Int) (k : Nat) : Int := if 0 < len then f ((a + k).toNat % len) else drA st (ct + k)
def drF (g : Nat → Int) (len : Nat) (a : Int) (st : ByteArray) (ct : Int) (k : Nat) : Int := if 0 < len then g ((a + k).toNat % len) else drB st (ct + k)
theorem dnA_le (len : Nat) (a : Int) (k : Nat) : a ≤ dnA len a k ∧ dnA len a k ≤ a + k := by unfold dnA; split <;> omega
theorem dnC_le (len : Nat) (c : Int) (k : Nat) : c ≤ dnC len c k ∧ dnC len c k ≤ c + k := by unfold dnC; split <;> omega
theorem tmod_nat (a : Int) (len : Nat) (a0 : 0 ≤ a) (h : 0 < len) : a.tmod (len : Int) = ((a.toNat % len : Nat) : Int) := by
  rw [Int.tmod_eq_emod_of_nonneg a0, Int.natCast_emod, Int.toNat_of_nonneg a0]

set_option maxHeartbeats 1000000 in
theorem sDraw_any (c : Option Addr) (len cap : Nat) (at' : Int) (st : ByteArray) (ct : Int) (f g : Nat → Int) (w : World) (h : Hid (PairV w c len f g)) (hl : len ≤ 64) (hst : st.size = 32) (a0 : 0 ≤ at') (a1 : at' ≤ 1000000) (c0 : 0 ≤ ct) (c1 : ct ≤ 1000000) :
    Calls Tryz.prog 87 #[.agg #[.slice c len cap, .int .i64 at', .string st, .int .i64 ct]] w fun e w' => e = .returned (.tuple #[.agg #[.slice c len cap, .int .i64 (dnA len at' 1), .string st, .int .i64 (dnC len ct 1)], .agg #[.int .i64 (drE f len at' st ct 0), .int .i64 (drF g len at' st ct 0)]]) ∧ Chg nob w w' := by
  by_cases h0 : 0 < len
  · refine (sDrawS_any c len cap (at'.toNat % len) at' st ct f g w h (Nat.mod_lt _ h0) hl a0 a1 (tmod_nat at' len a0 h0)).mono ?_
    rintro e w' ⟨rfl, k⟩
    refine ⟨?_, k⟩
    have e1 : dnA len at' 1 = at' + 1 := by unfold dnA; rw [if_pos h0]; omega
    have e2 : dnC len ct 1 = ct := by unfold dnC; rw [if_pos h0]
    have e3 : drE f len at' st ct 0 = f (at'.toNat % len) := by unfold drE; rw [if_pos h0]; simp
    have e4 : drF g len at' st ct 0 = g (at'.toNat % len) := by unfold drF; rw [if_pos h0]; simp
    rw [e1, e2, e3, e4]
  · obtain rfl : len = 0 := by omega
    refine (sDrawH_any c cap at' st ct w hst c0 c1).mono ?_
    rintro e w' ⟨rfl, k⟩
    refine ⟨?_, k⟩
    have e1 : dnA 0 at' 1 = at' := rfl
    have e2 : dnC 0 ct 1 = ct + 1 := rfl
    have e3 : drE f 0 at' st ct 0 = drA st ct := by unfold drE; rw [if_neg (by omega)]; simp
    have e4 : drF g 0 at' st ct 0 = drB st ct := by unfold drF; rw [if_neg (by omega)]; simp
    rw [e1, e2, e3, e4]

end Go.Proofs.YtkpohajmcngjcaaGreatDoor
