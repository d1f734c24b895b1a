/- Several texts in one: What the model's look at sources answers: a contract. Condition: rows that can be read. · What the model's new sources are, and what they take in: contracts. Conditions: texts of at most 65536 bytes. · What the model's own copies of sources are, and its new sources: contracts. Conditions: rows that can be read. · What the model's sources are behind what they take in: contracts. Conditions: rows that can be read. -/
import Derived.Test.YtkpohajmcngjcaaGreatDoorBzae
import Derived.Test.YtkpohajmcngjcaaGreatDoorBzaz
import Derived.Test.YtkpohajmcngjcaaGreatDoorBzaf
import Derived.Test.YtkpohajmcngjcaaGreatDoorBzav
import Derived.Test.YtkpohajmcngjcaaGreatDoorBzao
import Derived.Deep.RegionWith
import Derived.BigRegion
namespace Go.Proofs.YtkpohajmcngjcaaGreatDoor
open Go.ChangeShapes Go.WideShapes Go.ChangeAt Go.RowKit
set_option linter.unusedVariables false
set_option maxRecDepth 100000
set_option linter.unusedSimpArgs false

/-- Is it right? -/
def sokb (f g : Nat → Int) (len : Nat) (at' : Int) (st : ByteArray) (ct : Int) : Bool := decide (len ≤ 64) && okP f g len && inW at' 0 1000000 && decide (st.size = 32) && inW ct 0 1000000

set_option maxHeartbeats 2000000 in
theorem sSourceOK_any (c : Option Addr) (len cap : Nat) (at' : Int) (st : ByteArray) (ct : Int) (f g : Nat → Int) (w : World) (h : Hid (PairV w c len f g)) (hl : (len : Int) ≤ 9223372036854775807) (hs : (st.size : Int) ≤ 9223372036854775807) :
    Calls Tryz.prog 66 #[.agg #[.slice c len cap, .int .i64 at', .string st, .int .i64 ct]] w fun e w' => e = .returned (.bool (sokb f g len at' st ct)) ∧ Chg nob w w' := by
  by_cases h1 : (len : Int) ≤ 64
  · have e1 : decide (len ≤ 64) = true := decide_eq_true (by omega)
    have hl40 : len ≤ 1099511627776 := by omega
    cases h2 : okP f g len
    · have E := hik (show sokb f g len at' st ct = false by unfold sokb; rw [h2]; simp)
      go_enter Tryz.func66, Tryz.ntmps66
      go_wp2_with (go_at_call 102; refine (l02List_any c len cap f g _ (hik (h.out.keep ((Chg.refl nob w).alloc _))) hl40).mono ?_; rintro e W1 ⟨he, k1⟩; rw [h2] at he; subst he; have G1 := hik (((Chg.refl nob w).alloc (.cells #[.slice c len cap, .int .i64 at', .string st, .int .i64 ct] 35)).trans k1); clear k1)
      go_ret
      exact ⟨by rw [E.out]; rfl, G1.out⟩
    · cases h3 : inW at' 0 1000000
      · have E := hik (show sokb f g len at' st ct = false by unfold sokb; rw [h3]; simp)
        go_enter Tryz.func66, Tryz.ntmps66
        go_wp2_with (first | (go_at_call 102; refine (l02List_any c len cap f g _ (hik (h.out.keep ((Chg.refl nob w).alloc _))) hl40).mono ?_; rintro e W1 ⟨he, k1⟩; rw [h2] at he; subst he; have G1 := hik (((Chg.refl nob w).alloc (.cells #[.slice c len cap, .int .i64 at', .string st, .int .i64 ct] 35)).trans k1); obtain ⟨hc1, _, _⟩ := kcell k1 (w.heap.size + 1) (by simp); clear k1) | (go_at_call 99; refine (l01In_any _ _ _ _).mono ?_; rintro e W2 ⟨he, hw⟩; rw [h3] at he; subst he; have hw := hw.symm; subst hw))
        go_ret
        exact ⟨by rw [E.out]; rfl, G1.out⟩
      · by_cases h4 : (st.size : Int) = 32
        · have e4 : decide (st.size = 32) = true := decide_eq_true (by omega)
          have E := hik (show sokb f g len at' st ct = inW ct 0 1000000 by unfold sokb; rw [e1, h2, h3, e4]; simp)
          cases h5 : inW ct 0 1000000
          · go_enter Tryz.func66, Tryz.ntmps66
            go_wp2_with (first | (go_at_call 102; refine (l02List_any c len cap f g _ (hik (h.out.keep ((Chg.refl nob w).alloc _))) hl40).mono ?_; rintro e W1 ⟨he, k1⟩; rw [h2] at he; subst he; have G1 := hik (((Chg.refl nob w).alloc (.cells #[.slice c len cap, .int .i64 at', .string st, .int .i64 ct] 35)).trans k1); obtain ⟨hc1, _, _⟩ := kcell k1 (w.heap.size + 1) (by simp); clear k1) | (go_at_call 99; refine (l01In_any _ _ _ _).mono ?_; rintro e W2 ⟨he, hw⟩; (first | rw [h3] at he | rw [h5] at he); subst he; have hw := hw.symm; subst hw))
            go_ret
            exact ⟨by rw [E.out, h5]; rfl, G1.out⟩
          · go_enter Tryz.func66, Tryz.ntmps66
            go_wp2_with (first | (go_at_call 102; refine (l02List_any c len cap f g _ (hik (h.out.keep ((Chg.refl nob w).alloc _))) hl40).mono ?_; rintro e W1 ⟨he, k1⟩; rw [h2] at he; subst he; have G1 := hik (((Chg.refl nob w).alloc (.cells #[.slice c len cap, .int .i64 at', .string st, .int .i64 ct] 35)).trans k1); obtain ⟨hc1, _, _⟩ := kcell k1 (w.heap.size + 1) (by simp); clear k1) | (go_at_call 99; refine (l01In_any _ _ _ _).mono ?_; rintro e W2 ⟨he, hw⟩; (first | rw [h3] at he | rw [h5] at he); subst he; have hw := hw.symm; subst hw))
            go_ret
            exact ⟨by rw [E.out, h5]; rfl, G1.out⟩
        · have E := hik (show sokb f g len at' st ct = false by
            have e4 : decide (st.size = 32) = false := decide_eq_false (by omega)
            unfold sokb; rw [e4]; simp)
          go_enter Tryz.func66, Tryz.ntmps66
          go_wp2_with (first | (go_at_call 102; refine (l02List_any c len cap f g _ (hik (h.out.keep ((Chg.refl nob w).alloc _))) hl40).mono ?_; rintro e W1 ⟨he, k1⟩; rw [h2] at he; subst he; have G1 := hik (((Chg.refl nob w).alloc (.cells #[.slice c len cap, .int .i64 at', .string st, .int .i64 ct] 35)).trans k1); obtain ⟨hc1, _, _⟩ := kcell k1 (w.heap.size + 1) (by simp); clear k1) | (go_at_call 99; refine (l01In_any _ _ _ _).mono ?_; rintro e W2 ⟨he, hw⟩; rw [h3] at he; subst he; have hw := hw.symm; subst hw))
          go_ret
          exact ⟨by rw [E.out]; rfl, G1.out⟩
  · have E := hik (show sokb f g len at' st ct = false by
      have e1 : decide (len ≤ 64) = false := decide_eq_false (by omega)
      unfold sokb; rw [e1]; rfl)
    go_enter Tryz.func66, Tryz.ntmps66
    go_wp2
    go_ret
    exact ⟨by rw [E.out]; rfl, (Chg.refl _ _).alloc _⟩

end Go.Proofs.YtkpohajmcngjcaaGreatDoor

namespace Go.Proofs.YtkpohajmcngjcaaGreatDoor
open Go.ChangeShapes Go.WideShapes Go.ChangeAt Go.RowKit
set_option linter.unusedVariables false
set_option maxRecDepth 100000
set_option linter.unusedSimpArgs false

/-- The state of a new source. -/
def nwT (label : ByteArray) : ByteArray := ⟨#[115, 111, 117, 114, 99, 101]⟩ ++ label
def nwS (label : ByteArray) : ByteArray := hsh (nwT label)
theorem nwT_size (label : ByteArray) : (nwT label).size = 6 + label.size := by unfold nwT; rw [ByteArray.size_append]; rfl
set_option maxRecDepth 100000 in
set_option maxHeartbeats 1000000 in
theorem sNew_any (label : ByteArray) (c : Option Addr) (n cap : Nat) (w : World) (hl : label.size ≤ 65536) :
    Calls Tryz.prog 84 #[.string label, .slice c n cap] w fun e w' => e = .returned (.agg #[.slice c n cap, .int .i64 0, .string (nwS label), .int .i64 0]) ∧ Chg nob w w' := by
  have hl' : (label.size : Int) ≤ 65536 := by omega
  have hsz : (nwT label).size ≤ 1048576 := by rw [nwT_size]; omega
  go_enter Tryz.func84, Tryz.ntmps84
  go_wp2_with (go_at_call 103; refine (sHash_any (nwT label) _ hsz).mono ?_; rintro e W1 ⟨he, k1⟩; have he : e = .returned (.string (nwS label)) := he; subst he; have G1 := hik (((Chg.refl nob w).alloc (.cells #[.slice none 0 0, .int .i64 0, .string ⟨#[]⟩, .int .i64 0] 35)).trans k1); have R1 := hik (rowIs_keep (row4_new w (.slice none 0 0) (.int .i64 0) (.string ⟨#[]⟩) (.int .i64 0) 35) k1); obtain ⟨hc1, hf1, hz1⟩ := kcell k1 (w.heap.size + 1) (by simp); clear k1)
  exact bodyPost_ret (v := .agg #[.slice c n cap, .int .i64 0, .string (nwS label), .int .i64 0]) (by simp [results, Tryz.results84, go_sem, row4_s0 R1.out (.slice c n cap), row4_s1 R1.out (.slice c n cap) (.int .i64 0), row4_s2 R1.out (.slice c n cap) (.int .i64 0) (.string (nwS label)), row4_s3 R1.out (.slice c n cap) (.int .i64 0) (.string (nwS label)) (.int .i64 0)]) rfl ⟨rfl, chg4_set G1.out _ (fun l => absurd l (by simp)) _ _ _ _⟩

/-- The state behind a text that is taken in. -/
def abT (st t : ByteArray) : ByteArray := st ++ ⟨#[97, 98, 115, 111, 114, 98]⟩ ++ be4 t.size ++ t
def abS (st t : ByteArray) : ByteArray := hsh (abT st t)
theorem abT_size (st t : ByteArray) : (abT st t).size = st.size + 10 + t.size := by
  unfold abT
  rw [ByteArray.size_append, ByteArray.size_append, ByteArray.size_append, be4_size]; rfl

set_option maxRecDepth 100000 in
set_option maxHeartbeats 2000000 in
theorem sAbsorb_any (c : Option Addr) (len cap : Nat) (at' : Int) (st : ByteArray) (ct : Int) (t : ByteArray) (w : World) (hst : st.size = 32) (ht : t.size ≤ 65536) :
    Calls Tryz.prog 70 #[.agg #[.slice c len cap, .int .i64 at', .string st, .int .i64 ct], .string t] w fun e w' => e = .returned (.agg #[.slice c len cap, .int .i64 at', .string (abS st t), .int .i64 0]) ∧ Chg nob w w' := by
  have hst' : (st.size : Int) = 32 := by omega
  have ht' : (t.size : Int) ≤ 65536 := by omega
  have hb4 : (be4 (t.size : Int)).size = 4 := be4_size _
  have hno : ¬ 9223372036854775807 < 42 + t.size := by omega
  have hsz : (abT st t).size ≤ 1048576 := by rw [abT_size]; omega
  have HSZ := hik hsz
  clear hsz
  go_enter Tryz.func70, Tryz.ntmps70
  go_wp2
  refine wp_region_held_drew (S := fun _ => True) (by kernel_rfl) True.intro (fun hHeld => ?_)
  refine wpAnyH_take (i := 0) (v := ?_) rfl (by kernel_rfl) (by kernel_rfl) (by kernel_rfl) (fun _ _ _ h => h) (Or.inl ⟨by rfl, ?_⟩) (by assumption) ?_
  rotate_left 1
  · (intro w' hSw; (try dsimp only at hSw); go_simp; try with_reducible rfl)
  try simp only [Act.put, List.setIfInBounds_toArray, List.set_cons_zero, List.set_cons_succ, List.getElem_toArray, List.getElem_cons_zero, List.getElem_cons_succ]
  refine wpAnyH_take (i := 3) (v := ?_) rfl (by kernel_rfl) (by kernel_rfl) (by kernel_rfl) (fun _ _ _ h => h) (Or.inl ⟨by rfl, ?_⟩) (by assumption) ?_
  rotate_left 1
  · (intro w' hSw; (try dsimp only at hSw); go_simp; try with_reducible rfl)
  try simp only [Act.put, List.setIfInBounds_toArray, List.set_cons_zero, List.set_cons_succ, List.getElem_toArray, List.getElem_cons_zero, List.getElem_cons_succ]
  refine wpAnyH_take (i := 4) (v := ?_) rfl (by kernel_rfl) (by kernel_rfl) (by kernel_rfl) (fun _ _ _ h => h) (Or.inl ⟨by rfl, ?_⟩) (by assumption) ?_
  rotate_left 1
  · (intro w' hSw; (try dsimp only at hSw); go_simp; try with_reducible rfl)
  try simp only [Act.put, List.setIfInBounds_toArray, List.set_cons_zero, List.set_cons_succ, List.getElem_toArray, List.getElem_cons_zero, List.getElem_cons_succ]
  refine wpAnyH_take (i := 8) (v := ?_) rfl (by kernel_rfl) (by kernel_rfl) (by kernel_rfl) (fun _ _ _ h => h) (Or.inl ⟨by rfl, ?_⟩) (by assumption) ?_
  rotate_left 1
  · (intro w' hSw; (try dsimp only at hSw); go_simp; try with_reducible rfl)
  try simp only [Act.put, List.setIfInBounds_toArray, List.set_cons_zero, List.set_cons_succ, List.getElem_toArray, List.getElem_cons_zero, List.getElem_cons_succ]
  refine wpAnyH_ready (rs := [1, 5]) (by kernel_rfl) (by simp) ?_
  refine AllReadyH.cons rfl (fun K hK => ?_) ?_
  · simp only [List.getElem_toArray, List.getElem_cons_zero, List.getElem_cons_succ]
    go_simp
    refine hK.out _ _ True.intro (fun hHeld => ?_)
    clear hK K
    try simp only [Act.put, List.setIfInBounds_toArray, List.set_cons_zero, List.set_cons_succ, List.getElem_toArray, List.getElem_cons_zero, List.getElem_cons_succ]
    refine wpAnyH_take (i := 2) (v := ?_) rfl (by kernel_rfl) (by kernel_rfl) (by kernel_rfl) (fun _ _ _ h => h) (Or.inl ⟨by rfl, ?_⟩) (by assumption) ?_
    rotate_left 1
    · (intro w' hSw; (try dsimp only at hSw); go_simp; try with_reducible rfl)
    try simp only [Act.put, List.setIfInBounds_toArray, List.set_cons_zero, List.set_cons_succ, List.getElem_toArray, List.getElem_cons_zero, List.getElem_cons_succ]
    refine wpAnyH_ready (rs := [5]) (by kernel_rfl) (by simp) ?_
    refine AllReadyH.cons rfl (fun K hK => ?_) AllReadyH.nil
    refine stepL_callN 69 #[.tmp 9, .const (.int .i64 4)] #[3, 3] (by rfl) (by rfl) #[.int .i64 t.size, .int .i64 4] (by simp only [List.map_toArray, List.map_cons, List.map_nil]; rfl) (run_go Tryz.func69 (by kernel_rfl) (by kernel_rfl) _ _) (l02Number_any (t.size : Int) _ (by omega) (by omega)) ?_
    rintro e W1 ⟨b1, p1, hb1, he, hcells, k1⟩
    refine ⟨_, he, ?_⟩
    refine hK.out _ _ True.intro (fun hHeld => ?_)
    clear hK K
    try simp only [Act.put, List.setIfInBounds_toArray, List.set_cons_zero, List.set_cons_succ, List.getElem_toArray, List.getElem_cons_zero, List.getElem_cons_succ]
    have K1 := hik k1
    have x1 : W1.cell? ⟨w.heap.size, 2, none⟩ = some (.string st) := k1.see (by go_simp)
    have hcv := convB (some ⟨b1, 0, none⟩) 4 p1 (wb t.size) W1 (four_row (World.block_lt_of_cell? W1 _ (hcells 0 _ rfl)) hcells)
    have hcv : (convert 53 9 (.slice (some ⟨b1, 0, none⟩) 4 p1)).run Tryz.prog W1 = .ok (.string (be4 t.size)) W1 := hcv
    clear he hcells k1 hb1
    refine wpAnyH_ready (rs := [6]) (by kernel_rfl) (by simp) ?_
    refine AllReadyH.cons rfl (fun K hK => ?_) AllReadyH.nil
    refine stepL_conv 53 9 (.tmp 10) (by rfl) (by rfl) _ _ _ (by rfl) hcv ?_
    refine hK.out _ _ True.intro (fun hHeld => ?_)
    clear hK K
    try simp only [Act.put, List.setIfInBounds_toArray, List.set_cons_zero, List.set_cons_succ, List.getElem_toArray, List.getElem_cons_zero, List.getElem_cons_succ]
    clear hcv
    refine wpAnyH_take (i := 7) (v := ?_) rfl (by kernel_rfl) (by kernel_rfl) (by kernel_rfl) (fun _ _ _ h => h) (Or.inl ⟨by rfl, ?_⟩) (by assumption) ?_
    rotate_left 1
    · (intro w' hSw; (try dsimp only at hSw); go_simp; try with_reducible rfl)
    try simp only [Act.put, List.setIfInBounds_toArray, List.set_cons_zero, List.set_cons_succ, List.getElem_toArray, List.getElem_cons_zero, List.getElem_cons_succ]
    refine wpAnyH_take (i := 9) (v := ?_) rfl (by kernel_rfl) (by kernel_rfl) (by kernel_rfl) (fun _ _ _ h => h) (Or.inl ⟨by rfl, ?_⟩) (by assumption) ?_
    rotate_left 1
    · (intro w' hSw; (try dsimp only at hSw); go_simp; try with_reducible rfl)
    try simp only [Act.put, List.setIfInBounds_toArray, List.set_cons_zero, List.set_cons_succ, List.getElem_toArray, List.getElem_cons_zero, List.getElem_cons_succ]
    refine wpAnyH_ready (rs := [10]) (by kernel_rfl) (by simp) ?_
    refine AllReadyH.cons rfl (fun K hK => ?_) AllReadyH.nil
    refine stepL_callN 103 #[.tmp 14] #[9] (by rfl) (by rfl) #[.string (abT st t)] (by simp only [List.map_toArray, List.map_cons, List.map_nil]; rfl) (run_go Tryz.func103 (by kernel_rfl) (by kernel_rfl) _ _) (sHash_any (abT st t) _ HSZ.out) ?_
    rintro e W2 ⟨he, k2⟩
    have he : e = .returned (.string (abS st t)) := he
    refine ⟨_, he, ?_⟩
    refine hK.out _ _ True.intro (fun hHeld => ?_)
    clear hK K
    try simp only [Act.put, List.setIfInBounds_toArray, List.set_cons_zero, List.set_cons_succ, List.getElem_toArray, List.getElem_cons_zero, List.getElem_cons_succ]
    clear he x1
    have KK : Chg nob ((w.alloc (.cells #[.slice c len cap, .int .i64 at', .string st, .int .i64 ct] 35)).alloc (.cells #[.slice none 0 0, .int .i64 0, .string ⟨#[]⟩, .int .i64 0] 35)) W2 := (Chg.refl nob _).drew1.trans (K1.out.trans k2)
    obtain ⟨hc2, hf2, hz2⟩ := kcell KK (w.heap.size + 2) (by simp)
    have G2 := hik (((Chg.refl nob w).alloc (.cells #[.slice c len cap, .int .i64 at', .string st, .int .i64 ct] 35)).alloc (.cells #[.slice none 0 0, .int .i64 0, .string ⟨#[]⟩, .int .i64 0] 35))
    have G3 := hik (G2.out.trans KK)
    have R0 := hik (rowIs_keep (World.rowIs.alloc (row4_new w (.slice c len cap) (.int .i64 at') (.string st) (.int .i64 ct) 35) (.cells #[.slice none 0 0, .int .i64 0, .string ⟨#[]⟩, .int .i64 0] 35)) KK)
    have R1 := hik (rowIs_keep (row4_new (w.alloc (.cells #[.slice c len cap, .int .i64 at', .string st, .int .i64 ct] 35)) (.slice none 0 0) (.int .i64 0) (.string ⟨#[]⟩) (.int .i64 0) 35) KK)
    clear K1 k2 KK G2
    refine wpAnyH_take (i := 11) (v := ?_) rfl (by kernel_rfl) (by kernel_rfl) (by kernel_rfl) (fun _ _ _ h => h) (Or.inl ⟨by rfl, ?_⟩) (by assumption) ?_
    rotate_left 1
    · (intro w' hSw; (try dsimp only at hSw); go_simp; try with_reducible rfl)
    try simp only [Act.put, List.setIfInBounds_toArray, List.set_cons_zero, List.set_cons_succ, List.getElem_toArray, List.getElem_cons_zero, List.getElem_cons_succ]
    refine wpAnyH_ready (rs := [12]) (by kernel_rfl) (by simp) ?_
    refine AllReadyH.cons rfl (fun K hK => ?_) AllReadyH.nil
    simp only [List.getElem_toArray, List.getElem_cons_zero, List.getElem_cons_succ]
    go_simp
    refine hK.out _ _ True.intro (fun hHeld => ?_)
    clear hK K
    try simp only [Act.put, List.setIfInBounds_toArray, List.set_cons_zero, List.set_cons_succ, List.getElem_toArray, List.getElem_cons_zero, List.getElem_cons_succ]
    refine wpAnyH_done (by kernel_rfl) ?_ _
    go_wp2
    have R2 : Hid (((W2.setCell ⟨w.heap.size, 2, none⟩ (.string (abS st t))).setCell ⟨w.heap.size, 3, none⟩ (.int .i64 0)).rowIs (w.heap.size + 1) 35 4 (pv4 (.slice none 0 0) (.int .i64 0) (.string ⟨#[]⟩) (.int .i64 0))) := hik (World.rowIs.setOther (World.rowIs.setOther (by simpa using R1.out) (by simp) _) (by simp) _)
    exact bodyPost_ret (v := .agg #[.slice c len cap, .int .i64 at', .string (abS st t), .int .i64 0]) (by simp [results, Tryz.results70, go_sem, row4_s0 R2.out (.slice c len cap), row4_s1 R2.out (.slice c len cap) (.int .i64 at'), row4_s2 R2.out (.slice c len cap) (.int .i64 at') (.string (abS st t)), row4_s3 R2.out (.slice c len cap) (.int .i64 at') (.string (abS st t)) (.int .i64 0)]) rfl ⟨rfl, chg4_set ((G3.out.setCell (p := ⟨w.heap.size, 2, none⟩) (fun l => absurd l (by simp)) _).setCell (p := ⟨w.heap.size, 3, none⟩) (fun l => absurd l (by simp)) _) _ (fun l => absurd l (by simp)) _ _ _ _⟩
  · refine AllReadyH.cons rfl (fun K hK => ?_) AllReadyH.nil
    refine stepL_callN 69 #[.tmp 9, .const (.int .i64 4)] #[3, 3] (by rfl) (by rfl) #[.int .i64 t.size, .int .i64 4] (by simp only [List.map_toArray, List.map_cons, List.map_nil]; rfl) (run_go Tryz.func69 (by kernel_rfl) (by kernel_rfl) _ _) (l02Number_any (t.size : Int) _ (by omega) (by omega)) ?_
    rintro e W1 ⟨b1, p1, hb1, he, hcells, k1⟩
    refine ⟨_, he, ?_⟩
    refine hK.out _ _ True.intro (fun hHeld => ?_)
    clear hK K
    try simp only [Act.put, List.setIfInBounds_toArray, List.set_cons_zero, List.set_cons_succ, List.getElem_toArray, List.getElem_cons_zero, List.getElem_cons_succ]
    have K1 := hik k1
    have x1 : W1.cell? ⟨w.heap.size, 2, none⟩ = some (.string st) := k1.see (by go_simp)
    have hcv := convB (some ⟨b1, 0, none⟩) 4 p1 (wb t.size) W1 (four_row (World.block_lt_of_cell? W1 _ (hcells 0 _ rfl)) hcells)
    have hcv : (convert 53 9 (.slice (some ⟨b1, 0, none⟩) 4 p1)).run Tryz.prog W1 = .ok (.string (be4 t.size)) W1 := hcv
    clear he hcells k1 hb1
    refine wpAnyH_ready (rs := [1, 6]) (by kernel_rfl) (by simp) ?_
    refine AllReadyH.cons rfl (fun K hK => ?_) ?_
    · simp only [List.getElem_toArray, List.getElem_cons_zero, List.getElem_cons_succ]
      go_simp
      refine hK.out _ _ True.intro (fun hHeld => ?_)
      clear hK K
      try simp only [Act.put, List.setIfInBounds_toArray, List.set_cons_zero, List.set_cons_succ, List.getElem_toArray, List.getElem_cons_zero, List.getElem_cons_succ]
      refine wpAnyH_take (i := 2) (v := ?_) rfl (by kernel_rfl) (by kernel_rfl) (by kernel_rfl) (fun _ _ _ h => h) (Or.inl ⟨by rfl, ?_⟩) (by assumption) ?_
      rotate_left 1
      · (intro w' hSw; (try dsimp only at hSw); go_simp; try with_reducible rfl)
      try simp only [Act.put, List.setIfInBounds_toArray, List.set_cons_zero, List.set_cons_succ, List.getElem_toArray, List.getElem_cons_zero, List.getElem_cons_succ]
      refine wpAnyH_ready (rs := [6]) (by kernel_rfl) (by simp) ?_
      refine AllReadyH.cons rfl (fun K hK => ?_) AllReadyH.nil
      refine stepL_conv 53 9 (.tmp 10) (by rfl) (by rfl) _ _ _ (by rfl) hcv ?_
      refine hK.out _ _ True.intro (fun hHeld => ?_)
      clear hK K
      try simp only [Act.put, List.setIfInBounds_toArray, List.set_cons_zero, List.set_cons_succ, List.getElem_toArray, List.getElem_cons_zero, List.getElem_cons_succ]
      clear hcv
      refine wpAnyH_take (i := 7) (v := ?_) rfl (by kernel_rfl) (by kernel_rfl) (by kernel_rfl) (fun _ _ _ h => h) (Or.inl ⟨by rfl, ?_⟩) (by assumption) ?_
      rotate_left 1
      · (intro w' hSw; (try dsimp only at hSw); go_simp; try with_reducible rfl)
      try simp only [Act.put, List.setIfInBounds_toArray, List.set_cons_zero, List.set_cons_succ, List.getElem_toArray, List.getElem_cons_zero, List.getElem_cons_succ]
      refine wpAnyH_take (i := 9) (v := ?_) rfl (by kernel_rfl) (by kernel_rfl) (by kernel_rfl) (fun _ _ _ h => h) (Or.inl ⟨by rfl, ?_⟩) (by assumption) ?_
      rotate_left 1
      · (intro w' hSw; (try dsimp only at hSw); go_simp; try with_reducible rfl)
      try simp only [Act.put, List.setIfInBounds_toArray, List.set_cons_zero, List.set_cons_succ, List.getElem_toArray, List.getElem_cons_zero, List.getElem_cons_succ]
      refine wpAnyH_ready (rs := [10]) (by kernel_rfl) (by simp) ?_
      refine AllReadyH.cons rfl (fun K hK => ?_) AllReadyH.nil
      refine stepL_callN 103 #[.tmp 14] #[9] (by rfl) (by rfl) #[.string (abT st t)] (by simp only [List.map_toArray, List.map_cons, List.map_nil]; rfl) (run_go Tryz.func103 (by kernel_rfl) (by kernel_rfl) _ _) (sHash_any (abT st t) _ HSZ.out) ?_
      rintro e W2 ⟨he, k2⟩
      have he : e = .returned (.string (abS st t)) := he
      refine ⟨_, he, ?_⟩
      refine hK.out _ _ True.intro (fun hHeld => ?_)
      clear hK K
      try simp only [Act.put, List.setIfInBounds_toArray, List.set_cons_zero, List.set_cons_succ, List.getElem_toArray, List.getElem_cons_zero, List.getElem_cons_succ]
      clear he x1
      have KK : Chg nob ((w.alloc (.cells #[.slice c len cap, .int .i64 at', .string st, .int .i64 ct] 35)).alloc (.cells #[.slice none 0 0, .int .i64 0, .string ⟨#[]⟩, .int .i64 0] 35)) W2 := (Chg.refl nob _).drew1.trans (K1.out.trans k2)
      obtain ⟨hc2, hf2, hz2⟩ := kcell KK (w.heap.size + 2) (by simp)
      have G2 := hik (((Chg.refl nob w).alloc (.cells #[.slice c len cap, .int .i64 at', .string st, .int .i64 ct] 35)).alloc (.cells #[.slice none 0 0, .int .i64 0, .string ⟨#[]⟩, .int .i64 0] 35))
      have G3 := hik (G2.out.trans KK)
      have R0 := hik (rowIs_keep (World.rowIs.alloc (row4_new w (.slice c len cap) (.int .i64 at') (.string st) (.int .i64 ct) 35) (.cells #[.slice none 0 0, .int .i64 0, .string ⟨#[]⟩, .int .i64 0] 35)) KK)
      have R1 := hik (rowIs_keep (row4_new (w.alloc (.cells #[.slice c len cap, .int .i64 at', .string st, .int .i64 ct] 35)) (.slice none 0 0) (.int .i64 0) (.string ⟨#[]⟩) (.int .i64 0) 35) KK)
      clear K1 k2 KK G2
      refine wpAnyH_take (i := 11) (v := ?_) rfl (by kernel_rfl) (by kernel_rfl) (by kernel_rfl) (fun _ _ _ h => h) (Or.inl ⟨by rfl, ?_⟩) (by assumption) ?_
      rotate_left 1
      · (intro w' hSw; (try dsimp only at hSw); go_simp; try with_reducible rfl)
      try simp only [Act.put, List.setIfInBounds_toArray, List.set_cons_zero, List.set_cons_succ, List.getElem_toArray, List.getElem_cons_zero, List.getElem_cons_succ]
      refine wpAnyH_ready (rs := [12]) (by kernel_rfl) (by simp) ?_
      refine AllReadyH.cons rfl (fun K hK => ?_) AllReadyH.nil
      simp only [List.getElem_toArray, List.getElem_cons_zero, List.getElem_cons_succ]
      go_simp
      refine hK.out _ _ True.intro (fun hHeld => ?_)
      clear hK K
      try simp only [Act.put, List.setIfInBounds_toArray, List.set_cons_zero, List.set_cons_succ, List.getElem_toArray, List.getElem_cons_zero, List.getElem_cons_succ]
      refine wpAnyH_done (by kernel_rfl) ?_ _
      go_wp2
      have R2 : Hid (((W2.setCell ⟨w.heap.size, 2, none⟩ (.string (abS st t))).setCell ⟨w.heap.size, 3, none⟩ (.int .i64 0)).rowIs (w.heap.size + 1) 35 4 (pv4 (.slice none 0 0) (.int .i64 0) (.string ⟨#[]⟩) (.int .i64 0))) := hik (World.rowIs.setOther (World.rowIs.setOther (by simpa using R1.out) (by simp) _) (by simp) _)
      exact bodyPost_ret (v := .agg #[.slice c len cap, .int .i64 at', .string (abS st t), .int .i64 0]) (by simp [results, Tryz.results70, go_sem, row4_s0 R2.out (.slice c len cap), row4_s1 R2.out (.slice c len cap) (.int .i64 at'), row4_s2 R2.out (.slice c len cap) (.int .i64 at') (.string (abS st t)), row4_s3 R2.out (.slice c len cap) (.int .i64 at') (.string (abS st t)) (.int .i64 0)]) rfl ⟨rfl, chg4_set ((G3.out.setCell (p := ⟨w.heap.size, 2, none⟩) (fun l => absurd l (by simp)) _).setCell (p := ⟨w.heap.size, 3, none⟩) (fun l => absurd l (by simp)) _) _ (fun l => absurd l (by simp)) _ _ _ _⟩
    · refine AllReadyH.cons rfl (fun K hK => ?_) AllReadyH.nil
      refine stepL_conv 53 9 (.tmp 10) (by rfl) (by rfl) _ _ _ (by rfl) hcv ?_
      refine hK.out _ _ True.intro (fun hHeld => ?_)
      clear hK K
      try simp only [Act.put, List.setIfInBounds_toArray, List.set_cons_zero, List.set_cons_succ, List.getElem_toArray, List.getElem_cons_zero, List.getElem_cons_succ]
      clear hcv
      refine wpAnyH_ready (rs := [1]) (by kernel_rfl) (by simp) ?_
      refine AllReadyH.cons rfl (fun K hK => ?_) AllReadyH.nil
      simp only [List.getElem_toArray, List.getElem_cons_zero, List.getElem_cons_succ]
      go_simp
      refine hK.out _ _ True.intro (fun hHeld => ?_)
      clear hK K
      try simp only [Act.put, List.setIfInBounds_toArray, List.set_cons_zero, List.set_cons_succ, List.getElem_toArray, List.getElem_cons_zero, List.getElem_cons_succ]
      refine wpAnyH_take (i := 2) (v := ?_) rfl (by kernel_rfl) (by kernel_rfl) (by kernel_rfl) (fun _ _ _ h => h) (Or.inl ⟨by rfl, ?_⟩) (by assumption) ?_
      rotate_left 1
      · (intro w' hSw; (try dsimp only at hSw); go_simp; try with_reducible rfl)
      try simp only [Act.put, List.setIfInBounds_toArray, List.set_cons_zero, List.set_cons_succ, List.getElem_toArray, List.getElem_cons_zero, List.getElem_cons_succ]
      refine wpAnyH_take (i := 7) (v := ?_) rfl (by kernel_rfl) (by kernel_rfl) (by kernel_rfl) (fun _ _ _ h => h) (Or.inl ⟨by rfl, ?_⟩) (by assumption) ?_
      rotate_left 1
      · (intro w' hSw; (try dsimp only at hSw); go_simp; try with_reducible rfl)
      try simp only [Act.put, List.setIfInBounds_toArray, List.set_cons_zero, List.set_cons_succ, List.getElem_toArray, List.getElem_cons_zero, List.getElem_cons_succ]
      refine wpAnyH_take (i := 9) (v := ?_) rfl (by kernel_rfl) (by kernel_rfl) (by kernel_rfl) (fun _ _ _ h => h) (Or.inl ⟨by rfl, ?_⟩) (by assumption) ?_
      rotate_left 1
      · (intro w' hSw; (try dsimp only at hSw); go_simp; try with_reducible rfl)
      try simp only [Act.put, List.setIfInBounds_toArray, List.set_cons_zero, List.set_cons_succ, List.getElem_toArray, List.getElem_cons_zero, List.getElem_cons_succ]
      refine wpAnyH_ready (rs := [10]) (by kernel_rfl) (by simp) ?_
      refine AllReadyH.cons rfl (fun K hK => ?_) AllReadyH.nil
      refine stepL_callN 103 #[.tmp 14] #[9] (by rfl) (by rfl) #[.string (abT st t)] (by simp only [List.map_toArray, List.map_cons, List.map_nil]; rfl) (run_go Tryz.func103 (by kernel_rfl) (by kernel_rfl) _ _) (sHash_any (abT st t) _ HSZ.out) ?_
      rintro e W2 ⟨he, k2⟩
      have he : e = .returned (.string (abS st t)) := he
      refine ⟨_, he, ?_⟩
      refine hK.out _ _ True.intro (fun hHeld => ?_)
      clear hK K
      try simp only [Act.put, List.setIfInBounds_toArray, List.set_cons_zero, List.set_cons_succ, List.getElem_toArray, List.getElem_cons_zero, List.getElem_cons_succ]
      clear he x1
      have KK : Chg nob ((w.alloc (.cells #[.slice c len cap, .int .i64 at', .string st, .int .i64 ct] 35)).alloc (.cells #[.slice none 0 0, .int .i64 0, .string ⟨#[]⟩, .int .i64 0] 35)) W2 := (Chg.refl nob _).drew1.trans (K1.out.trans k2)
      obtain ⟨hc2, hf2, hz2⟩ := kcell KK (w.heap.size + 2) (by simp)
      have G2 := hik (((Chg.refl nob w).alloc (.cells #[.slice c len cap, .int .i64 at', .string st, .int .i64 ct] 35)).alloc (.cells #[.slice none 0 0, .int .i64 0, .string ⟨#[]⟩, .int .i64 0] 35))
      have G3 := hik (G2.out.trans KK)
      have R0 := hik (rowIs_keep (World.rowIs.alloc (row4_new w (.slice c len cap) (.int .i64 at') (.string st) (.int .i64 ct) 35) (.cells #[.slice none 0 0, .int .i64 0, .string ⟨#[]⟩, .int .i64 0] 35)) KK)
      have R1 := hik (rowIs_keep (row4_new (w.alloc (.cells #[.slice c len cap, .int .i64 at', .string st, .int .i64 ct] 35)) (.slice none 0 0) (.int .i64 0) (.string ⟨#[]⟩) (.int .i64 0) 35) KK)
      clear K1 k2 KK G2
      refine wpAnyH_take (i := 11) (v := ?_) rfl (by kernel_rfl) (by kernel_rfl) (by kernel_rfl) (fun _ _ _ h => h) (Or.inl ⟨by rfl, ?_⟩) (by assumption) ?_
      rotate_left 1
      · (intro w' hSw; (try dsimp only at hSw); go_simp; try with_reducible rfl)
      try simp only [Act.put, List.setIfInBounds_toArray, List.set_cons_zero, List.set_cons_succ, List.getElem_toArray, List.getElem_cons_zero, List.getElem_cons_succ]
      refine wpAnyH_ready (rs := [12]) (by kernel_rfl) (by simp) ?_
      refine AllReadyH.cons rfl (fun K hK => ?_) AllReadyH.nil
      simp only [List.getElem_toArray, List.getElem_cons_zero, List.getElem_cons_succ]
      go_simp
      refine hK.out _ _ True.intro (fun hHeld => ?_)
      clear hK K
      try simp only [Act.put, List.setIfInBounds_toArray, List.set_cons_zero, List.set_cons_succ, List.getElem_toArray, List.getElem_cons_zero, List.getElem_cons_succ]
      refine wpAnyH_done (by kernel_rfl) ?_ _
      go_wp2
      have R2 : Hid (((W2.setCell ⟨w.heap.size, 2, none⟩ (.string (abS st t))).setCell ⟨w.heap.size, 3, none⟩ (.int .i64 0)).rowIs (w.heap.size + 1) 35 4 (pv4 (.slice none 0 0) (.int .i64 0) (.string ⟨#[]⟩) (.int .i64 0))) := hik (World.rowIs.setOther (World.rowIs.setOther (by simpa using R1.out) (by simp) _) (by simp) _)
      exact bodyPost_ret (v := .agg #[.slice c len cap, .int .i64 at', .string (abS st t), .int .i64 0]) (by simp [results, Tryz.results70, go_sem, row4_s0 R2.out (.slice c len cap), row4_s1 R2.out (.slice c len cap) (.int .i64 at'), row4_s2 R2.out (.slice c len cap) (.int .i64 at') (.string (abS st t)), row4_s3 R2.out (.slice c len cap) (.int .i64 at') (.string (abS st t)) (.int .i64 0)]) rfl ⟨rfl, chg4_set ((G3.out.setCell (p := ⟨w.heap.size, 2, none⟩) (fun l => absurd l (by simp)) _).setCell (p := ⟨w.heap.size, 3, none⟩) (fun l => absurd l (by simp)) _) _ (fun l => absurd l (by simp)) _ _ _ _⟩

end Go.Proofs.YtkpohajmcngjcaaGreatDoor

namespace Go.Proofs.YtkpohajmcngjcaaGreatDoor
open Go.ChangeShapes Go.WideShapes Go.ChangeAt Go.RowKit
set_option linter.unusedVariables false
set_option maxRecDepth 100000
set_option linter.unusedSimpArgs false

set_option maxRecDepth 100000 in
set_option maxHeartbeats 1000000 in
theorem sOwn_any (c : Option Addr) (n cap : Nat) (f g : Nat → Int) (at' : Int) (st : ByteArray) (ct : Int) (w : World) (h : Hid (PairV w c n f g)) (hn : n ≤ 1099511627776) :
    Calls Tryz.prog 33 #[.agg #[.slice c n cap, .int .i64 at', .string st, .int .i64 ct]] w fun e w' => SrAns w n f g at' st ct e w' := by
  obtain ⟨i0, hi, hz0, hz1, hz2⟩ := info_parts infoExt
  have HI := hik hi
  have HZ0 := hik hz0
  have HZ1 := hik hz1
  have HZ2 := hik hz2
  clear hi hz0 hz1 hz2
  go_enter Tryz.func33, Tryz.ntmps33
  go_wp2_with (at_builtin; refine wpList_append_pairs _ (.tmp 3) (.tmp 5) 33 rfl rfl i0 Tryz.underlying33 HI.out HZ0.out HZ1.out HZ2.out (w.heap.size + 1 + 1) (by simp) rfl c n cap f g rfl (h.out.keep ((((Chg.refl nob w).alloc _).alloc _).alloc _)) hn ?_)
  intro c1 cap1 W1 ho hle hm k1
  have R0 := hik (rowIs_keep (World.rowIs.alloc (World.rowIs.alloc (row4_new w (.slice c n cap) (.int .i64 at') (.string st) (.int .i64 ct) 35) (.cells #[.slice none 0 0, .int .i64 0, .string ⟨#[]⟩, .int .i64 0] 35)) (.cells #[] 62)) k1)
  have R1 := hik (rowIs_keep (World.rowIs.alloc (row4_new (w.alloc (.cells #[.slice c n cap, .int .i64 at', .string st, .int .i64 ct] 35)) (.slice none 0 0) (.int .i64 0) (.string ⟨#[]⟩) (.int .i64 0) 35) (.cells #[] 62)) k1)
  have G1 := hik (((((Chg.refl nob w).alloc (.cells #[.slice c n cap, .int .i64 at', .string st, .int .i64 ct] 35)).alloc (.cells #[.slice none 0 0, .int .i64 0, .string ⟨#[]⟩, .int .i64 0] 35)).alloc (.cells #[] 62)).trans k1)
  have HO := hik ho
  have y0 : W1.cell? ⟨w.heap.size, 0, none⟩ = some (.slice c n cap) := R0.out.cell (by omega)
  obtain ⟨hc1, hf1, hz1⟩ := kcell k1 (w.heap.size + 2) (by simp)
  clear k1 ho hle hm HI HZ0 HZ1 HZ2
  go_wp2
  have R2 : Hid ((W1.setCell ⟨w.heap.size, 0, none⟩ (.slice c1 n cap1)).rowIs (w.heap.size + 1) 35 4 (pv4 (.slice none 0 0) (.int .i64 0) (.string ⟨#[]⟩) (.int .i64 0))) := hik (World.rowIs.setOther (by simpa using R1.out) (by simp) _)
  exact bodyPost_ret (v := .agg #[.slice c1 n cap1, .int .i64 at', .string st, .int .i64 ct]) (by simp [results, Tryz.results33, go_sem, row4_s0 R2.out (.slice c1 n cap1), row4_s1 R2.out (.slice c1 n cap1) (.int .i64 at'), row4_s2 R2.out (.slice c1 n cap1) (.int .i64 at') (.string st), row4_s3 R2.out (.slice c1 n cap1) (.int .i64 at') (.string st) (.int .i64 ct)]) rfl ⟨_, _, rfl, ((HO.out.chg (P := fun b => b < w.heap.size + 2) (chg4_set ((Chg.refl _ W1).setCell (p := ⟨w.heap.size, 0, none⟩) (fun _ => (by show w.heap.size < w.heap.size + 2; omega)) _) _ (fun _ => (by show w.heap.size + 1 < w.heap.size + 2; omega)) _ _ _ _) (fun b hb _ hp => (by first | omega | (simp at hb; omega)))).low (B' := w.heap.size) (by first | omega | (simp; omega))), chg4_set (G1.out.setCell (p := ⟨w.heap.size, 0, none⟩) (fun l => absurd l (by simp)) _) _ (fun l => absurd l (by simp)) _ _ _ _⟩


end Go.Proofs.YtkpohajmcngjcaaGreatDoor

namespace Go.Proofs.YtkpohajmcngjcaaGreatDoor
open Go.ChangeShapes Go.WideShapes Go.ChangeAt Go.RowKit
set_option linter.unusedVariables false
set_option maxRecDepth 100000
set_option linter.unusedSimpArgs false


end Go.Proofs.YtkpohajmcngjcaaGreatDoor
