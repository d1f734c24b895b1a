/- Several texts in one: What the model's look at sources answers: a contract. Condition: rows that can be read. · The model's four bytes of a number: a contract. Condition: a number of the field. · What the model's new sources are, and what they take in: contracts. Conditions: texts of at most 65536 bytes. · The model's bytes of a list: contracts. Conditions: rows that can be read, right elements. -/
import Derived.Test.YtkpohajmcngjcaaGreatDoorBzae
import Derived.Test.YtkpohajmcngjcaaGreatDoorBzal
import Derived.Test.YtkpohajmcngjcaaGreatDoorBzaf
import Derived.Test.YtkpohajmcngjcaaGreatDoorBzan
import Derived.Test.YtkpohajmcngjcaaGreatDoorBzao
import Derived.Deep.RegionWith
import Derived.BigRegion
import Derived.Deep.AppendLies
namespace Go.Proofs.YtkpohajmcngjcaaGreatDoor
open Go.ChangeShapes Go.WideShapes Go.ChangeAt Go.RowKit
set_option linter.unusedVariables false
set_option maxRecDepth 100000
set_option linter.unusedSimpArgs false

/-- Is it right? -/
def sokb (f g : Nat → Int) (len : Nat) (at' : Int) (st : ByteArray) (ct : Int) : Bool := decide (len ≤ 64) && okP f g len && inW at' 0 1000000 && decide (st.size = 32) && inW ct 0 1000000

set_option maxHeartbeats 2000000 in
theorem sSourceOK_any (c : Option Addr) (len cap : Nat) (at' : Int) (st : ByteArray) (ct : Int) (f g : Nat → Int) (w : World) (h : Hid (PairV w c len f g)) (hl : (len : Int) ≤ 9223372036854775807) (hs : (st.size : Int) ≤ 9223372036854775807) :
    Calls Tryz.prog 66 #[.agg #[.slice c len cap, .int .i64 at', .string st, .int .i64 ct]] w fun e w' => e = .returned (.bool (sokb f g len at' st ct)) ∧ Chg nob w w' := by
  by_cases h1 : (len : Int) ≤ 64
  · have e1 : decide (len ≤ 64) = true := decide_eq_true (by omega)
    have hl40 : len ≤ 1099511627776 := by omega
    cases h2 : okP f g len
    · have E := hik (show sokb f g len at' st ct = false by unfold sokb; rw [h2]; simp)
      go_enter Tryz.func66, Tryz.ntmps66
      go_wp2_with (go_at_call 102; refine (l02List_any c len cap f g _ (hik (h.out.keep ((Chg.refl nob w).alloc _))) hl40).mono ?_; rintro e W1 ⟨he, k1⟩; rw [h2] at he; subst he; have G1 := hik (((Chg.refl nob w).alloc (.cells #[.slice c len cap, .int .i64 at', .string st, .int .i64 ct] 35)).trans k1); clear k1)
      go_ret
      exact ⟨by rw [E.out]; rfl, G1.out⟩
    · cases h3 : inW at' 0 1000000
      · have E := hik (show sokb f g len at' st ct = false by unfold sokb; rw [h3]; simp)
        go_enter Tryz.func66, Tryz.ntmps66
        go_wp2_with (first | (go_at_call 102; refine (l02List_any c len cap f g _ (hik (h.out.keep ((Chg.refl nob w).alloc _))) hl40).mono ?_; rintro e W1 ⟨he, k1⟩; rw [h2] at he; subst he; have G1 := hik (((Chg.refl nob w).alloc (.cells #[.slice c len cap, .int .i64 at', .string st, .int .i64 ct] 35)).trans k1); obtain ⟨hc1, _, _⟩ := kcell k1 (w.heap.size + 1) (by simp); clear k1) | (go_at_call 99; refine (l01In_any _ _ _ _).mono ?_; rintro e W2 ⟨he, hw⟩; rw [h3] at he; subst he; have hw := hw.symm; subst hw))
        go_ret
        exact ⟨by rw [E.out]; rfl, G1.out⟩
      · by_cases h4 : (st.size : Int) = 32
        · have e4 : decide (st.size = 32) = true := decide_eq_true (by omega)
          have E := hik (show sokb f g len at' st ct = inW ct 0 1000000 by unfold sokb; rw [e1, h2, h3, e4]; simp)
          cases h5 : inW ct 0 1000000
          · go_enter Tryz.func66, Tryz.ntmps66
            go_wp2_with (first | (go_at_call 102; refine (l02List_any c len cap f g _ (hik (h.out.keep ((Chg.refl nob w).alloc _))) hl40).mono ?_; rintro e W1 ⟨he, k1⟩; rw [h2] at he; subst he; have G1 := hik (((Chg.refl nob w).alloc (.cells #[.slice c len cap, .int .i64 at', .string st, .int .i64 ct] 35)).trans k1); obtain ⟨hc1, _, _⟩ := kcell k1 (w.heap.size + 1) (by simp); clear k1) | (go_at_call 99; refine (l01In_any _ _ _ _).mono ?_; rintro e W2 ⟨he, hw⟩; (first | rw [h3] at he | rw [h5] at he); subst he; have hw := hw.symm; subst hw))
            go_ret
            exact ⟨by rw [E.out, h5]; rfl, G1.out⟩
          · go_enter Tryz.func66, Tryz.ntmps66
            go_wp2_with (first | (go_at_call 102; refine (l02List_any c len cap f g _ (hik (h.out.keep ((Chg.refl nob w).alloc _))) hl40).mono ?_; rintro e W1 ⟨he, k1⟩; rw [h2] at he; subst he; have G1 := hik (((Chg.refl nob w).alloc (.cells #[.slice c len cap, .int .i64 at', .string st, .int .i64 ct] 35)).trans k1); obtain ⟨hc1, _, _⟩ := kcell k1 (w.heap.size + 1) (by simp); clear k1) | (go_at_call 99; refine (l01In_any _ _ _ _).mono ?_; rintro e W2 ⟨he, hw⟩; (first | rw [h3] at he | rw [h5] at he); subst he; have hw := hw.symm; subst hw))
            go_ret
            exact ⟨by rw [E.out, h5]; rfl, G1.out⟩
        · have E := hik (show sokb f g len at' st ct = false by
            have e4 : decide (st.size = 32) = false := decide_eq_false (by omega)
            unfold sokb; rw [e4]; simp)
          go_enter Tryz.func66, Tryz.ntmps66
          go_wp2_with (first | (go_at_call 102; refine (l02List_any c len cap f g _ (hik (h.out.keep ((Chg.refl nob w).alloc _))) hl40).mono ?_; rintro e W1 ⟨he, k1⟩; rw [h2] at he; subst he; have G1 := hik (((Chg.refl nob w).alloc (.cells #[.slice c len cap, .int .i64 at', .string st, .int .i64 ct] 35)).trans k1); obtain ⟨hc1, _, _⟩ := kcell k1 (w.heap.size + 1) (by simp); clear k1) | (go_at_call 99; refine (l01In_any _ _ _ _).mono ?_; rintro e W2 ⟨he, hw⟩; rw [h3] at he; subst he; have hw := hw.symm; subst hw))
          go_ret
          exact ⟨by rw [E.out]; rfl, G1.out⟩
  · have E := hik (show sokb f g len at' st ct = false by
      have e1 : decide (len ≤ 64) = false := decide_eq_false (by omega)
      unfold sokb; rw [e1]; rfl)
    go_enter Tryz.func66, Tryz.ntmps66
    go_wp2
    go_ret
    exact ⟨by rw [E.out]; rfl, (Chg.refl _ _).alloc _⟩

end Go.Proofs.YtkpohajmcngjcaaGreatDoor

namespace Go.Proofs.YtkpohajmcngjcaaGreatDoor
open Go.ChangeShapes Go.WideShapes Go.ChangeAt Go.RowKit
set_option linter.unusedVariables false
set_option linter.unusedSimpArgs false

/-! The model's. -/
theorem owns_none (w : World) (B : Nat) (t : TypeId) (z : Nat) (hB : B ≤ w.heap.size) : (w.alloc (.cells #[] t)).ownsRow B t z (.slice (some ⟨w.heap.size, 0, none⟩) 0 0) 0 [] :=
  ⟨by simp, .inr ⟨w.heap.size, 0, #[], rfl, hB, Array.getElem?_push_size, Nat.le_refl _, Nat.zero_le _, by simp, by simp⟩⟩
/-- Four bytes in new memory. -/
def Four (w : World) (a : Int) (e : Ending) (w' : World) : Prop :=
  ∃ b cap : Nat, w.heap.size ≤ b ∧ e = .returned (.slice (some ⟨b, 0, none⟩) 4 cap) ∧ (∀ j u, (wv a)[j]? = some u → w'.cell? ((⟨b, 0, none⟩ : Addr).add j) = some u) ∧ Chg nob w w'
theorem four_of {w w' : World} {a : Int} {v : Value} {t : TypeId} (h : w'.ownsRow w.heap.size t 1 v 4 (wv a)) (k : Chg nob w w') : Four w a (.returned v) w' := by
  have h' := h
  rcases h.2 with ⟨_, h0⟩ | ⟨g, cap, cur, rfl, hb, _⟩
  · cases h0
  · exact ⟨g, cap, hb, rfl, h'.cells rfl, k⟩

set_option maxHeartbeats 2000000 in
theorem l02Number_any (a : Int) (w : World) (a0 : 0 ≤ a) (a1 : a < 2130706433) :
    Calls Tryz.prog 69 #[.int .i64 a, .int .i64 4] w fun e w' => Four w a e w' := by
  obtain ⟨i0, hi, hz0, hz1, hz2⟩ := info_parts infoU8
  have HI := hide hi
  have HZ0 := hide hz0
  have HZ1 := hide hz1
  have HZ2 := hide hz2
  clear hi hz0 hz1 hz2
  go_enter Tryz.func69, Tryz.ntmps69
  go_wp2
  go_loopw [5, 6] (fun v i W => ∃ k : Nat, k ≤ 4 ∧ i = .int .i64 (3 - (k : Int)) ∧ Hid (W.ownsRow w.heap.size 5 1 v k ((wv a).take k)) ∧ Hid (Chg nob w W)) (fun _ i _ => (intOf i + 1).toNat)
  case atStart => exact ⟨0, by omega, rfl, hide (owns_none _ _ _ _ (Nat.le_refl _)), hide ((Chg.refl _ _).alloc _)⟩
  case round =>
    obtain ⟨k, hk, rfl, HW, HC⟩ := hrel
    have hsz := HC.out.size
    by_cases hlt : k < 4
    · have hd : k = 0 ∨ k = 1 ∨ k = 2 ∨ k = 3 := by omega
      rcases hd with rfl | rfl | rfl | rfl
      · go_wp2_with (at_builtin; refine wpList_append_own _ rfl (.tmp 14) (.tmp 21) 53 rfl w.heap.size 5 i0 (.int .u8 0) 1 1 Tryz.underlying53 HI.out HZ0.out HZ1.out HZ2.out rfl (by decide) _ 0 _ rfl (HW.out.alloc _) ⟨_, 0, none⟩ 1 1 [.int .u8 (wb a 0)] rfl rfl ?c1 ?c2 ?c3 ?c4 ?c5 ?c6)
        case c1 =>
          intro j u hj
          match j, hj with
          | 0, hj => simp [wb] at hj; subst hj; simp [Addr.add]; omega
          | j + 1, hj => simp at hj
        case c2 => intro u hu; simp at hu; subst hu; rfl
        case c3 => unfold maxLen; omega
        case c4 => omega
        case c5 => simp; omega
        case c6 =>
          intro v' w1 hown hgr _
          have HOW : Hid (w1.ownsRow w.heap.size 5 1 v' (0 + 1) ((wv a).take (0 + 1))) := hide hown
          have HGC := hide ((HC.out.alloc _).grown hgr (fun b e l => absurd (HW.out.lt b e).1 (by omega)))
          clear hown hgr
          go_wp2
          go_roundw
          case rel => exact ⟨0 + 1, by omega, by go_num, HOW, HGC⟩
          case measure => simp [intOf]
      · go_wp2_with (at_builtin; refine wpList_append_own _ rfl (.tmp 14) (.tmp 21) 53 rfl w.heap.size 5 i0 (.int .u8 0) 1 1 Tryz.underlying53 HI.out HZ0.out HZ1.out HZ2.out rfl (by decide) _ 1 _ rfl (HW.out.alloc _) ⟨_, 0, none⟩ 1 1 [.int .u8 (wb a 1)] rfl rfl ?c1 ?c2 ?c3 ?c4 ?c5 ?c6)
        case c1 =>
          intro j u hj
          match j, hj with
          | 0, hj => simp [wb] at hj; subst hj; simp [Addr.add]
          | j + 1, hj => simp at hj
        case c2 => intro u hu; simp at hu; subst hu; rfl
        case c3 => unfold maxLen; omega
        case c4 => omega
        case c5 => simp; omega
        case c6 =>
          intro v' w1 hown hgr _
          have HOW : Hid (w1.ownsRow w.heap.size 5 1 v' (1 + 1) ((wv a).take (1 + 1))) := hide hown
          have HGC := hide ((HC.out.alloc _).grown hgr (fun b e l => absurd (HW.out.lt b e).1 (by omega)))
          clear hown hgr
          go_wp2
          go_roundw
          case rel => exact ⟨1 + 1, by omega, by go_num, HOW, HGC⟩
          case measure => simp [intOf]
      · go_wp2_with (at_builtin; refine wpList_append_own _ rfl (.tmp 14) (.tmp 21) 53 rfl w.heap.size 5 i0 (.int .u8 0) 1 1 Tryz.underlying53 HI.out HZ0.out HZ1.out HZ2.out rfl (by decide) _ 2 _ rfl (HW.out.alloc _) ⟨_, 0, none⟩ 1 1 [.int .u8 (wb a 2)] rfl rfl ?c1 ?c2 ?c3 ?c4 ?c5 ?c6)
        case c1 =>
          intro j u hj
          match j, hj with
          | 0, hj => simp [wb] at hj; subst hj; simp [Addr.add]
          | j + 1, hj => simp at hj
        case c2 => intro u hu; simp at hu; subst hu; rfl
        case c3 => unfold maxLen; omega
        case c4 => omega
        case c5 => simp; omega
        case c6 =>
          intro v' w1 hown hgr _
          have HOW : Hid (w1.ownsRow w.heap.size 5 1 v' (2 + 1) ((wv a).take (2 + 1))) := hide hown
          have HGC := hide ((HC.out.alloc _).grown hgr (fun b e l => absurd (HW.out.lt b e).1 (by omega)))
          clear hown hgr
          go_wp2
          go_roundw
          case rel => exact ⟨2 + 1, by omega, by go_num, HOW, HGC⟩
          case measure => simp [intOf]
      · go_wp2_with (at_builtin; refine wpList_append_own _ rfl (.tmp 14) (.tmp 21) 53 rfl w.heap.size 5 i0 (.int .u8 0) 1 1 Tryz.underlying53 HI.out HZ0.out HZ1.out HZ2.out rfl (by decide) _ 3 _ rfl (HW.out.alloc _) ⟨_, 0, none⟩ 1 1 [.int .u8 (wb a 3)] rfl rfl ?c1 ?c2 ?c3 ?c4 ?c5 ?c6)
        case c1 =>
          intro j u hj
          match j, hj with
          | 0, hj => simp [wb] at hj; subst hj; simp [Addr.add]
          | j + 1, hj => simp at hj
        case c2 => intro u hu; simp at hu; subst hu; rfl
        case c3 => unfold maxLen; omega
        case c4 => omega
        case c5 => simp; omega
        case c6 =>
          intro v' w1 hown hgr _
          have HOW : Hid (w1.ownsRow w.heap.size 5 1 v' (3 + 1) ((wv a).take (3 + 1))) := hide hown
          have HGC := hide ((HC.out.alloc _).grown hgr (fun b e l => absurd (HW.out.lt b e).1 (by omega)))
          clear hown hgr
          go_wp2
          go_roundw
          case rel => exact ⟨3 + 1, by omega, by go_num, HOW, HGC⟩
          case measure => simp [intOf]
    · obtain rfl : k = 4 := by omega
      go_wp2
      go_ret
      exact four_of HW.out HC.out


end Go.Proofs.YtkpohajmcngjcaaGreatDoor

namespace Go.Proofs.YtkpohajmcngjcaaGreatDoor
open Go.ChangeShapes Go.WideShapes Go.ChangeAt Go.RowKit
set_option linter.unusedVariables false
set_option maxRecDepth 100000
set_option linter.unusedSimpArgs false

/-- The state behind a text that is taken in. -/
def abT (st t : ByteArray) : ByteArray := st ++ ⟨#[97, 98, 115, 111, 114, 98]⟩ ++ be4 t.size ++ t
def abS (st t : ByteArray) : ByteArray := hsh (abT st t)
theorem abT_size (st t : ByteArray) : (abT st t).size = st.size + 10 + t.size := by
  unfold abT
  rw [ByteArray.size_append, ByteArray.size_append, ByteArray.size_append, be4_size]; rfl

set_option maxRecDepth 100000 in
set_option maxHeartbeats 2000000 in
theorem sAbsorb_any (c : Option Addr) (len cap : Nat) (at' : Int) (st : ByteArray) (ct : Int) (t : ByteArray) (w : World) (hst : st.size = 32) (ht : t.size ≤ 65536) :
    Calls Tryz.prog 70 #[.agg #[.slice c len cap, .int .i64 at', .string st, .int .i64 ct], .string t] w fun e w' => e = .returned (.agg #[.slice c len cap, .int .i64 at', .string (abS st t), .int .i64 0]) ∧ Chg nob w w' := by
  have hst' : (st.size : Int) = 32 := by omega
  have ht' : (t.size : Int) ≤ 65536 := by omega
  have hb4 : (be4 (t.size : Int)).size = 4 := be4_size _
  have hno : ¬ 9223372036854775807 < 42 + t.size := by omega
  have hsz : (abT st t).size ≤ 1048576 := by rw [abT_size]; omega
  have HSZ := hik hsz
  clear hsz
  go_enter Tryz.func70, Tryz.ntmps70
  go_wp2
  refine wp_region_held_drew (S := fun _ => True) (by kernel_rfl) True.intro (fun hHeld => ?_)
  refine wpAnyH_take (i := 0) (v := ?_) rfl (by kernel_rfl) (by kernel_rfl) (by kernel_rfl) (fun _ _ _ h => h) (Or.inl ⟨by rfl, ?_⟩) (by assumption) ?_
  rotate_left 1
  · (intro w' hSw; (try dsimp only at hSw); go_simp; try with_reducible rfl)
  try simp only [Act.put, List.setIfInBounds_toArray, List.set_cons_zero, List.set_cons_succ, List.getElem_toArray, List.getElem_cons_zero, List.getElem_cons_succ]
  refine wpAnyH_take (i := 3) (v := ?_) rfl (by kernel_rfl) (by kernel_rfl) (by kernel_rfl) (fun _ _ _ h => h) (Or.inl ⟨by rfl, ?_⟩) (by assumption) ?_
  rotate_left 1
  · (intro w' hSw; (try dsimp only at hSw); go_simp; try with_reducible rfl)
  try simp only [Act.put, List.setIfInBounds_toArray, List.set_cons_zero, List.set_cons_succ, List.getElem_toArray, List.getElem_cons_zero, List.getElem_cons_succ]
  refine wpAnyH_take (i := 4) (v := ?_) rfl (by kernel_rfl) (by kernel_rfl) (by kernel_rfl) (fun _ _ _ h => h) (Or.inl ⟨by rfl, ?_⟩) (by assumption) ?_
  rotate_left 1
  · (intro w' hSw; (try dsimp only at hSw); go_simp; try with_reducible rfl)
  try simp only [Act.put, List.setIfInBounds_toArray, List.set_cons_zero, List.set_cons_succ, List.getElem_toArray, List.getElem_cons_zero, List.getElem_cons_succ]
  refine wpAnyH_take (i := 8) (v := ?_) rfl (by kernel_rfl) (by kernel_rfl) (by kernel_rfl) (fun _ _ _ h => h) (Or.inl ⟨by rfl, ?_⟩) (by assumption) ?_
  rotate_left 1
  · (intro w' hSw; (try dsimp only at hSw); go_simp; try with_reducible rfl)
  try simp only [Act.put, List.setIfInBounds_toArray, List.set_cons_zero, List.set_cons_succ, List.getElem_toArray, List.getElem_cons_zero, List.getElem_cons_succ]
  refine wpAnyH_ready (rs := [1, 5]) (by kernel_rfl) (by simp) ?_
  refine AllReadyH.cons rfl (fun K hK => ?_) ?_
  · simp only [List.getElem_toArray, List.getElem_cons_zero, List.getElem_cons_succ]
    go_simp
    refine hK.out _ _ True.intro (fun hHeld => ?_)
    clear hK K
    try simp only [Act.put, List.setIfInBounds_toArray, List.set_cons_zero, List.set_cons_succ, List.getElem_toArray, List.getElem_cons_zero, List.getElem_cons_succ]
    refine wpAnyH_take (i := 2) (v := ?_) rfl (by kernel_rfl) (by kernel_rfl) (by kernel_rfl) (fun _ _ _ h => h) (Or.inl ⟨by rfl, ?_⟩) (by assumption) ?_
    rotate_left 1
    · (intro w' hSw; (try dsimp only at hSw); go_simp; try with_reducible rfl)
    try simp only [Act.put, List.setIfInBounds_toArray, List.set_cons_zero, List.set_cons_succ, List.getElem_toArray, List.getElem_cons_zero, List.getElem_cons_succ]
    refine wpAnyH_ready (rs := [5]) (by kernel_rfl) (by simp) ?_
    refine AllReadyH.cons rfl (fun K hK => ?_) AllReadyH.nil
    refine stepL_callN 69 #[.tmp 9, .const (.int .i64 4)] #[3, 3] (by rfl) (by rfl) #[.int .i64 t.size, .int .i64 4] (by simp only [List.map_toArray, List.map_cons, List.map_nil]; rfl) (run_go Tryz.func69 (by kernel_rfl) (by kernel_rfl) _ _) (l02Number_any (t.size : Int) _ (by omega) (by omega)) ?_
    rintro e W1 ⟨b1, p1, hb1, he, hcells, k1⟩
    refine ⟨_, he, ?_⟩
    refine hK.out _ _ True.intro (fun hHeld => ?_)
    clear hK K
    try simp only [Act.put, List.setIfInBounds_toArray, List.set_cons_zero, List.set_cons_succ, List.getElem_toArray, List.getElem_cons_zero, List.getElem_cons_succ]
    have K1 := hik k1
    have x1 : W1.cell? ⟨w.heap.size, 2, none⟩ = some (.string st) := k1.see (by go_simp)
    have hcv := convB (some ⟨b1, 0, none⟩) 4 p1 (wb t.size) W1 (four_row (World.block_lt_of_cell? W1 _ (hcells 0 _ rfl)) hcells)
    have hcv : (convert 53 9 (.slice (some ⟨b1, 0, none⟩) 4 p1)).run Tryz.prog W1 = .ok (.string (be4 t.size)) W1 := hcv
    clear he hcells k1 hb1
    refine wpAnyH_ready (rs := [6]) (by kernel_rfl) (by simp) ?_
    refine AllReadyH.cons rfl (fun K hK => ?_) AllReadyH.nil
    refine stepL_conv 53 9 (.tmp 10) (by rfl) (by rfl) _ _ _ (by rfl) hcv ?_
    refine hK.out _ _ True.intro (fun hHeld => ?_)
    clear hK K
    try simp only [Act.put, List.setIfInBounds_toArray, List.set_cons_zero, List.set_cons_succ, List.getElem_toArray, List.getElem_cons_zero, List.getElem_cons_succ]
    clear hcv
    refine wpAnyH_take (i := 7) (v := ?_) rfl (by kernel_rfl) (by kernel_rfl) (by kernel_rfl) (fun _ _ _ h => h) (Or.inl ⟨by rfl, ?_⟩) (by assumption) ?_
    rotate_left 1
    · (intro w' hSw; (try dsimp only at hSw); go_simp; try with_reducible rfl)
    try simp only [Act.put, List.setIfInBounds_toArray, List.set_cons_zero, List.set_cons_succ, List.getElem_toArray, List.getElem_cons_zero, List.getElem_cons_succ]
    refine wpAnyH_take (i := 9) (v := ?_) rfl (by kernel_rfl) (by kernel_rfl) (by kernel_rfl) (fun _ _ _ h => h) (Or.inl ⟨by rfl, ?_⟩) (by assumption) ?_
    rotate_left 1
    · (intro w' hSw; (try dsimp only at hSw); go_simp; try with_reducible rfl)
    try simp only [Act.put, List.setIfInBounds_toArray, List.set_cons_zero, List.set_cons_succ, List.getElem_toArray, List.getElem_cons_zero, List.getElem_cons_succ]
    refine wpAnyH_ready (rs := [10]) (by kernel_rfl) (by simp) ?_
    refine AllReadyH.cons rfl (fun K hK => ?_) AllReadyH.nil
    refine stepL_callN 103 #[.tmp 14] #[9] (by rfl) (by rfl) #[.string (abT st t)] (by simp only [List.map_toArray, List.map_cons, List.map_nil]; rfl) (run_go Tryz.func103 (by kernel_rfl) (by kernel_rfl) _ _) (sHash_any (abT st t) _ HSZ.out) ?_
    rintro e W2 ⟨he, k2⟩
    have he : e = .returned (.string (abS st t)) := he
    refine ⟨_, he, ?_⟩
    refine hK.out _ _ True.intro (fun hHeld => ?_)
    clear hK K
    try simp only [Act.put, List.setIfInBounds_toArray, List.set_cons_zero, List.set_cons_succ, List.getElem_toArray, List.getElem_cons_zero, List.getElem_cons_succ]
    clear he x1
    have KK : Chg nob ((w.alloc (.cells #[.slice c len cap, .int .i64 at', .string st, .int .i64 ct] 35)).alloc (.cells #[.slice none 0 0, .int .i64 0, .string ⟨#[]⟩, .int .i64 0] 35)) W2 := (Chg.refl nob _).drew1.trans (K1.out.trans k2)
    obtain ⟨hc2, hf2, hz2⟩ := kcell KK (w.heap.size + 2) (by simp)
    have G2 := hik (((Chg.refl nob w).alloc (.cells #[.slice c len cap, .int .i64 at', .string st, .int .i64 ct] 35)).alloc (.cells #[.slice none 0 0, .int .i64 0, .string ⟨#[]⟩, .int .i64 0] 35))
    have G3 := hik (G2.out.trans KK)
    have R0 := hik (rowIs_keep (World.rowIs.alloc (row4_new w (.slice c len cap) (.int .i64 at') (.string st) (.int .i64 ct) 35) (.cells #[.slice none 0 0, .int .i64 0, .string ⟨#[]⟩, .int .i64 0] 35)) KK)
    have R1 := hik (rowIs_keep (row4_new (w.alloc (.cells #[.slice c len cap, .int .i64 at', .string st, .int .i64 ct] 35)) (.slice none 0 0) (.int .i64 0) (.string ⟨#[]⟩) (.int .i64 0) 35) KK)
    clear K1 k2 KK G2
    refine wpAnyH_take (i := 11) (v := ?_) rfl (by kernel_rfl) (by kernel_rfl) (by kernel_rfl) (fun _ _ _ h => h) (Or.inl ⟨by rfl, ?_⟩) (by assumption) ?_
    rotate_left 1
    · (intro w' hSw; (try dsimp only at hSw); go_simp; try with_reducible rfl)
    try simp only [Act.put, List.setIfInBounds_toArray, List.set_cons_zero, List.set_cons_succ, List.getElem_toArray, List.getElem_cons_zero, List.getElem_cons_succ]
    refine wpAnyH_ready (rs := [12]) (by kernel_rfl) (by simp) ?_
    refine AllReadyH.cons rfl (fun K hK => ?_) AllReadyH.nil
    simp only [List.getElem_toArray, List.getElem_cons_zero, List.getElem_cons_succ]
    go_simp
    refine hK.out _ _ True.intro (fun hHeld => ?_)
    clear hK K
    try simp only [Act.put, List.setIfInBounds_toArray, List.set_cons_zero, List.set_cons_succ, List.getElem_toArray, List.getElem_cons_zero, List.getElem_cons_succ]
    refine wpAnyH_done (by kernel_rfl) ?_ _
    go_wp2
    have R2 : Hid (((W2.setCell ⟨w.heap.size, 2, none⟩ (.string (abS st t))).setCell ⟨w.heap.size, 3, none⟩ (.int .i64 0)).rowIs (w.heap.size + 1) 35 4 (pv4 (.slice none 0 0) (.int .i64 0) (.string ⟨#[]⟩) (.int .i64 0))) := hik (World.rowIs.setOther (World.rowIs.setOther (by simpa using R1.out) (by simp) _) (by simp) _)
    exact bodyPost_ret (v := .agg #[.slice c len cap, .int .i64 at', .string (abS st t), .int .i64 0]) (by simp [results, Tryz.results70, go_sem, row4_s0 R2.out (.slice c len cap), row4_s1 R2.out (.slice c len cap) (.int .i64 at'), row4_s2 R2.out (.slice c len cap) (.int .i64 at') (.string (abS st t)), row4_s3 R2.out (.slice c len cap) (.int .i64 at') (.string (abS st t)) (.int .i64 0)]) rfl ⟨rfl, chg4_set ((G3.out.setCell (p := ⟨w.heap.size, 2, none⟩) (fun l => absurd l (by simp)) _).setCell (p := ⟨w.heap.size, 3, none⟩) (fun l => absurd l (by simp)) _) _ (fun l => absurd l (by simp)) _ _ _ _⟩
  · refine AllReadyH.cons rfl (fun K hK => ?_) AllReadyH.nil
    refine stepL_callN 69 #[.tmp 9, .const (.int .i64 4)] #[3, 3] (by rfl) (by rfl) #[.int .i64 t.size, .int .i64 4] (by simp only [List.map_toArray, List.map_cons, List.map_nil]; rfl) (run_go Tryz.func69 (by kernel_rfl) (by kernel_rfl) _ _) (l02Number_any (t.size : Int) _ (by omega) (by omega)) ?_
    rintro e W1 ⟨b1, p1, hb1, he, hcells, k1⟩
    refine ⟨_, he, ?_⟩
    refine hK.out _ _ True.intro (fun hHeld => ?_)
    clear hK K
    try simp only [Act.put, List.setIfInBounds_toArray, List.set_cons_zero, List.set_cons_succ, List.getElem_toArray, List.getElem_cons_zero, List.getElem_cons_succ]
    have K1 := hik k1
    have x1 : W1.cell? ⟨w.heap.size, 2, none⟩ = some (.string st) := k1.see (by go_simp)
    have hcv := convB (some ⟨b1, 0, none⟩) 4 p1 (wb t.size) W1 (four_row (World.block_lt_of_cell? W1 _ (hcells 0 _ rfl)) hcells)
    have hcv : (convert 53 9 (.slice (some ⟨b1, 0, none⟩) 4 p1)).run Tryz.prog W1 = .ok (.string (be4 t.size)) W1 := hcv
    clear he hcells k1 hb1
    refine wpAnyH_ready (rs := [1, 6]) (by kernel_rfl) (by simp) ?_
    refine AllReadyH.cons rfl (fun K hK => ?_) ?_
    · simp only [List.getElem_toArray, List.getElem_cons_zero, List.getElem_cons_succ]
      go_simp
      refine hK.out _ _ True.intro (fun hHeld => ?_)
      clear hK K
      try simp only [Act.put, List.setIfInBounds_toArray, List.set_cons_zero, List.set_cons_succ, List.getElem_toArray, List.getElem_cons_zero, List.getElem_cons_succ]
      refine wpAnyH_take (i := 2) (v := ?_) rfl (by kernel_rfl) (by kernel_rfl) (by kernel_rfl) (fun _ _ _ h => h) (Or.inl ⟨by rfl, ?_⟩) (by assumption) ?_
      rotate_left 1
      · (intro w' hSw; (try dsimp only at hSw); go_simp; try with_reducible rfl)
      try simp only [Act.put, List.setIfInBounds_toArray, List.set_cons_zero, List.set_cons_succ, List.getElem_toArray, List.getElem_cons_zero, List.getElem_cons_succ]
      refine wpAnyH_ready (rs := [6]) (by kernel_rfl) (by simp) ?_
      refine AllReadyH.cons rfl (fun K hK => ?_) AllReadyH.nil
      refine stepL_conv 53 9 (.tmp 10) (by rfl) (by rfl) _ _ _ (by rfl) hcv ?_
      refine hK.out _ _ True.intro (fun hHeld => ?_)
      clear hK K
      try simp only [Act.put, List.setIfInBounds_toArray, List.set_cons_zero, List.set_cons_succ, List.getElem_toArray, List.getElem_cons_zero, List.getElem_cons_succ]
      clear hcv
      refine wpAnyH_take (i := 7) (v := ?_) rfl (by kernel_rfl) (by kernel_rfl) (by kernel_rfl) (fun _ _ _ h => h) (Or.inl ⟨by rfl, ?_⟩) (by assumption) ?_
      rotate_left 1
      · (intro w' hSw; (try dsimp only at hSw); go_simp; try with_reducible rfl)
      try simp only [Act.put, List.setIfInBounds_toArray, List.set_cons_zero, List.set_cons_succ, List.getElem_toArray, List.getElem_cons_zero, List.getElem_cons_succ]
      refine wpAnyH_take (i := 9) (v := ?_) rfl (by kernel_rfl) (by kernel_rfl) (by kernel_rfl) (fun _ _ _ h => h) (Or.inl ⟨by rfl, ?_⟩) (by assumption) ?_
      rotate_left 1
      · (intro w' hSw; (try dsimp only at hSw); go_simp; try with_reducible rfl)
      try simp only [Act.put, List.setIfInBounds_toArray, List.set_cons_zero, List.set_cons_succ, List.getElem_toArray, List.getElem_cons_zero, List.getElem_cons_succ]
      refine wpAnyH_ready (rs := [10]) (by kernel_rfl) (by simp) ?_
      refine AllReadyH.cons rfl (fun K hK => ?_) AllReadyH.nil
      refine stepL_callN 103 #[.tmp 14] #[9] (by rfl) (by rfl) #[.string (abT st t)] (by simp only [List.map_toArray, List.map_cons, List.map_nil]; rfl) (run_go Tryz.func103 (by kernel_rfl) (by kernel_rfl) _ _) (sHash_any (abT st t) _ HSZ.out) ?_
      rintro e W2 ⟨he, k2⟩
      have he : e = .returned (.string (abS st t)) := he
      refine ⟨_, he, ?_⟩
      refine hK.out _ _ True.intro (fun hHeld => ?_)
      clear hK K
      try simp only [Act.put, List.setIfInBounds_toArray, List.set_cons_zero, List.set_cons_succ, List.getElem_toArray, List.getElem_cons_zero, List.getElem_cons_succ]
      clear he x1
      have KK : Chg nob ((w.alloc (.cells #[.slice c len cap, .int .i64 at', .string st, .int .i64 ct] 35)).alloc (.cells #[.slice none 0 0, .int .i64 0, .string ⟨#[]⟩, .int .i64 0] 35)) W2 := (Chg.refl nob _).drew1.trans (K1.out.trans k2)
      obtain ⟨hc2, hf2, hz2⟩ := kcell KK (w.heap.size + 2) (by simp)
      have G2 := hik (((Chg.refl nob w).alloc (.cells #[.slice c len cap, .int .i64 at', .string st, .int .i64 ct] 35)).alloc (.cells #[.slice none 0 0, .int .i64 0, .string ⟨#[]⟩, .int .i64 0] 35))
      have G3 := hik (G2.out.trans KK)
      have R0 := hik (rowIs_keep (World.rowIs.alloc (row4_new w (.slice c len cap) (.int .i64 at') (.string st) (.int .i64 ct) 35) (.cells #[.slice none 0 0, .int .i64 0, .string ⟨#[]⟩, .int .i64 0] 35)) KK)
      have R1 := hik (rowIs_keep (row4_new (w.alloc (.cells #[.slice c len cap, .int .i64 at', .string st, .int .i64 ct] 35)) (.slice none 0 0) (.int .i64 0) (.string ⟨#[]⟩) (.int .i64 0) 35) KK)
      clear K1 k2 KK G2
      refine wpAnyH_take (i := 11) (v := ?_) rfl (by kernel_rfl) (by kernel_rfl) (by kernel_rfl) (fun _ _ _ h => h) (Or.inl ⟨by rfl, ?_⟩) (by assumption) ?_
      rotate_left 1
      · (intro w' hSw; (try dsimp only at hSw); go_simp; try with_reducible rfl)
      try simp only [Act.put, List.setIfInBounds_toArray, List.set_cons_zero, List.set_cons_succ, List.getElem_toArray, List.getElem_cons_zero, List.getElem_cons_succ]
      refine wpAnyH_ready (rs := [12]) (by kernel_rfl) (by simp) ?_
      refine AllReadyH.cons rfl (fun K hK => ?_) AllReadyH.nil
      simp only [List.getElem_toArray, List.getElem_cons_zero, List.getElem_cons_succ]
      go_simp
      refine hK.out _ _ True.intro (fun hHeld => ?_)
      clear hK K
      try simp only [Act.put, List.setIfInBounds_toArray, List.set_cons_zero, List.set_cons_succ, List.getElem_toArray, List.getElem_cons_zero, List.getElem_cons_succ]
      refine wpAnyH_done (by kernel_rfl) ?_ _
      go_wp2
      have R2 : Hid (((W2.setCell ⟨w.heap.size, 2, none⟩ (.string (abS st t))).setCell ⟨w.heap.size, 3, none⟩ (.int .i64 0)).rowIs (w.heap.size + 1) 35 4 (pv4 (.slice none 0 0) (.int .i64 0) (.string ⟨#[]⟩) (.int .i64 0))) := hik (World.rowIs.setOther (World.rowIs.setOther (by simpa using R1.out) (by simp) _) (by simp) _)
      exact bodyPost_ret (v := .agg #[.slice c len cap, .int .i64 at', .string (abS st t), .int .i64 0]) (by simp [results, Tryz.results70, go_sem, row4_s0 R2.out (.slice c len cap), row4_s1 R2.out (.slice c len cap) (.int .i64 at'), row4_s2 R2.out (.slice c len cap) (.int .i64 at') (.string (abS st t)), row4_s3 R2.out (.slice c len cap) (.int .i64 at') (.string (abS st t)) (.int .i64 0)]) rfl ⟨rfl, chg4_set ((G3.out.setCell (p := ⟨w.heap.size, 2, none⟩) (fun l => absurd l (by simp)) _).setCell (p := ⟨w.heap.size, 3, none⟩) (fun l => absurd l (by simp)) _) _ (fun l => absurd l (by simp)) _ _ _ _⟩
    · refine AllReadyH.cons rfl (fun K hK => ?_) AllReadyH.nil
      refine stepL_conv 53 9 (.tmp 10) (by rfl) (by rfl) _ _ _ (by rfl) hcv ?_
      refine hK.out _ _ True.intro (fun hHeld => ?_)
      clear hK K
      try simp only [Act.put, List.setIfInBounds_toArray, List.set_cons_zero, List.set_cons_succ, List.getElem_toArray, List.getElem_cons_zero, List.getElem_cons_succ]
      clear hcv
      refine wpAnyH_ready (rs := [1]) (by kernel_rfl) (by simp) ?_
      refine AllReadyH.cons rfl (fun K hK => ?_) AllReadyH.nil
      simp only [List.getElem_toArray, List.getElem_cons_zero, List.getElem_cons_succ]
      go_simp
      refine hK.out _ _ True.intro (fun hHeld => ?_)
      clear hK K
      try simp only [Act.put, List.setIfInBounds_toArray, List.set_cons_zero, List.set_cons_succ, List.getElem_toArray, List.getElem_cons_zero, List.getElem_cons_succ]
      refine wpAnyH_take (i := 2) (v := ?_) rfl (by kernel_rfl) (by kernel_rfl) (by kernel_rfl) (fun _ _ _ h => h) (Or.inl ⟨by rfl, ?_⟩) (by assumption) ?_
      rotate_left 1
      · (intro w' hSw; (try dsimp only at hSw); go_simp; try with_reducible rfl)
      try simp only [Act.put, List.setIfInBounds_toArray, List.set_cons_zero, List.set_cons_succ, List.getElem_toArray, List.getElem_cons_zero, List.getElem_cons_succ]
      refine wpAnyH_take (i := 7) (v := ?_) rfl (by kernel_rfl) (by kernel_rfl) (by kernel_rfl) (fun _ _ _ h => h) (Or.inl ⟨by rfl, ?_⟩) (by assumption) ?_
      rotate_left 1
      · (intro w' hSw; (try dsimp only at hSw); go_simp; try with_reducible rfl)
      try simp only [Act.put, List.setIfInBounds_toArray, List.set_cons_zero, List.set_cons_succ, List.getElem_toArray, List.getElem_cons_zero, List.getElem_cons_succ]
      refine wpAnyH_take (i := 9) (v := ?_) rfl (by kernel_rfl) (by kernel_rfl) (by kernel_rfl) (fun _ _ _ h => h) (Or.inl ⟨by rfl, ?_⟩) (by assumption) ?_
      rotate_left 1
      · (intro w' hSw; (try dsimp only at hSw); go_simp; try with_reducible rfl)
      try simp only [Act.put, List.setIfInBounds_toArray, List.set_cons_zero, List.set_cons_succ, List.getElem_toArray, List.getElem_cons_zero, List.getElem_cons_succ]
      refine wpAnyH_ready (rs := [10]) (by kernel_rfl) (by simp) ?_
      refine AllReadyH.cons rfl (fun K hK => ?_) AllReadyH.nil
      refine stepL_callN 103 #[.tmp 14] #[9] (by rfl) (by rfl) #[.string (abT st t)] (by simp only [List.map_toArray, List.map_cons, List.map_nil]; rfl) (run_go Tryz.func103 (by kernel_rfl) (by kernel_rfl) _ _) (sHash_any (abT st t) _ HSZ.out) ?_
      rintro e W2 ⟨he, k2⟩
      have he : e = .returned (.string (abS st t)) := he
      refine ⟨_, he, ?_⟩
      refine hK.out _ _ True.intro (fun hHeld => ?_)
      clear hK K
      try simp only [Act.put, List.setIfInBounds_toArray, List.set_cons_zero, List.set_cons_succ, List.getElem_toArray, List.getElem_cons_zero, List.getElem_cons_succ]
      clear he x1
      have KK : Chg nob ((w.alloc (.cells #[.slice c len cap, .int .i64 at', .string st, .int .i64 ct] 35)).alloc (.cells #[.slice none 0 0, .int .i64 0, .string ⟨#[]⟩, .int .i64 0] 35)) W2 := (Chg.refl nob _).drew1.trans (K1.out.trans k2)
      obtain ⟨hc2, hf2, hz2⟩ := kcell KK (w.heap.size + 2) (by simp)
      have G2 := hik (((Chg.refl nob w).alloc (.cells #[.slice c len cap, .int .i64 at', .string st, .int .i64 ct] 35)).alloc (.cells #[.slice none 0 0, .int .i64 0, .string ⟨#[]⟩, .int .i64 0] 35))
      have G3 := hik (G2.out.trans KK)
      have R0 := hik (rowIs_keep (World.rowIs.alloc (row4_new w (.slice c len cap) (.int .i64 at') (.string st) (.int .i64 ct) 35) (.cells #[.slice none 0 0, .int .i64 0, .string ⟨#[]⟩, .int .i64 0] 35)) KK)
      have R1 := hik (rowIs_keep (row4_new (w.alloc (.cells #[.slice c len cap, .int .i64 at', .string st, .int .i64 ct] 35)) (.slice none 0 0) (.int .i64 0) (.string ⟨#[]⟩) (.int .i64 0) 35) KK)
      clear K1 k2 KK G2
      refine wpAnyH_take (i := 11) (v := ?_) rfl (by kernel_rfl) (by kernel_rfl) (by kernel_rfl) (fun _ _ _ h => h) (Or.inl ⟨by rfl, ?_⟩) (by assumption) ?_
      rotate_left 1
      · (intro w' hSw; (try dsimp only at hSw); go_simp; try with_reducible rfl)
      try simp only [Act.put, List.setIfInBounds_toArray, List.set_cons_zero, List.set_cons_succ, List.getElem_toArray, List.getElem_cons_zero, List.getElem_cons_succ]
      refine wpAnyH_ready (rs := [12]) (by kernel_rfl) (by simp) ?_
      refine AllReadyH.cons rfl (fun K hK => ?_) AllReadyH.nil
      simp only [List.getElem_toArray, List.getElem_cons_zero, List.getElem_cons_succ]
      go_simp
      refine hK.out _ _ True.intro (fun hHeld => ?_)
      clear hK K
      try simp only [Act.put, List.setIfInBounds_toArray, List.set_cons_zero, List.set_cons_succ, List.getElem_toArray, List.getElem_cons_zero, List.getElem_cons_succ]
      refine wpAnyH_done (by kernel_rfl) ?_ _
      go_wp2
      have R2 : Hid (((W2.setCell ⟨w.heap.size, 2, none⟩ (.string (abS st t))).setCell ⟨w.heap.size, 3, none⟩ (.int .i64 0)).rowIs (w.heap.size + 1) 35 4 (pv4 (.slice none 0 0) (.int .i64 0) (.string ⟨#[]⟩) (.int .i64 0))) := hik (World.rowIs.setOther (World.rowIs.setOther (by simpa using R1.out) (by simp) _) (by simp) _)
      exact bodyPost_ret (v := .agg #[.slice c len cap, .int .i64 at', .string (abS st t), .int .i64 0]) (by simp [results, Tryz.results70, go_sem, row4_s0 R2.out (.slice c len cap), row4_s1 R2.out (.slice c len cap) (.int .i64 at'), row4_s2 R2.out (.slice c len cap) (.int .i64 at') (.string (abS st t)), row4_s3 R2.out (.slice c len cap) (.int .i64 at') (.string (abS st t)) (.int .i64 0)]) rfl ⟨rfl, chg4_set ((G3.out.setCell (p := ⟨w.heap.size, 2, none⟩) (fun l => absurd l (by simp)) _).setCell (p := ⟨w.heap.size, 3, none⟩) (fun l => absurd l (by simp)) _) _ (fun l => absurd l (by simp)) _ _ _ _⟩

end Go.Proofs.YtkpohajmcngjcaaGreatDoor

namespace Go.Proofs.YtkpohajmcngjcaaGreatDoor
open Go.ChangeShapes Go.WideShapes Go.ChangeAt Go.RowKit
set_option linter.unusedVariables false
set_option linter.unusedSimpArgs false

/-- The model's answer, by the code. -/
def SEAns (w : World) (n : Nat) (f g : Nat → Int) (e : Ending) (w' : World) : Prop :=
  (bc f g n ≠ 0 ∧ ∃ (c0 : Option Addr) (cap0 : Nat), e = .returned (.tuple #[.slice c0 0 cap0, .int .i64 (bc f g n)]) ∧ Chg nob w w') ∨
  (bc f g n = 0 ∧ ∃ (c0 : Option Addr) (cap0 : Nat), e = .returned (.tuple #[.slice c0 (n * 8) cap0, .int .i64 0]) ∧ RowV w' c0 (n * 8) (bvl f g) ∧ Chg nob w w')
theorem SEAns.no {w w' : World} {n : Nat} {f g : Nat → Int} {e : Ending} {code : Int} {c0 : Option Addr} {cap0 : Nat} (hb : bc f g n = code) (hc : code ≠ 0) (h : e = .returned (.tuple #[.slice c0 0 cap0, .int .i64 code])) (k : Chg nob w w') : SEAns w n f g e w' :=
  .inl ⟨by rw [hb]; exact hc, c0, cap0, by rw [hb]; exact h, k⟩


end Go.Proofs.YtkpohajmcngjcaaGreatDoor
