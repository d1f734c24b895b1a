/- Several texts in one: What the model's bound tables and its rounds answer: contracts. Conditions: tables of at most 64 values that can be read. · Lists of lists in the laws: their sizes, copies, comparisons, marks: contracts. Conditions: lists that can be read, of at most 2 to the 40. -/
import Derived.Test.YtgiefpipflcbgadGreatDoorBzae
import Derived.Test.YtgiefpipflcbgadGreatDoorBzap
namespace Go.Proofs.YtgiefpipflcbgadGreatDoor
open Go.ChangeShapes Go.WideShapes Go.ChangeAt Go.RowKit
set_option linter.unusedVariables false
set_option maxRecDepth 100000
set_option linter.unusedSimpArgs false

/-- Lists of lists that can be read. -/
def BdAns (w : World) (n H : Nat) (u : Nat → Nat → El) (e : Ending) (w' : World) : Prop :=
  ∃ (c : Option Addr) (cap : Nat), e = .returned (.slice c n cap) ∧ RowsQ (fun b => w.heap.size ≤ b ∧ b < w'.heap.size) w' c n H u ∧ Chg nob w w'

theorem own_row {w : World} {B n : Nat} {c : Option Addr} {f g : Nat → Int} (ho : OwnE w B c n f g) (hn : 1 ≤ n) : ∃ b M h, c = some ⟨b, 0, none⟩ ∧ B ≤ b ∧ w.rowIs b 31 M h := by
  rcases ho with rfl | ⟨b, N, h, ec, hb, hr, _, _⟩
  · omega
  · exact ⟨b, N, h, ec, hb, hr⟩

set_option maxHeartbeats 4000000 in
theorem sBind8_any (c : Option Addr) (n N H cap : Nat) (t : Nat → Nat → El) (r : El) (w : World) (h : Hid (RowsE w c n N t)) (hN : N = 2 * H) (hH1 : 1 ≤ H) (hH : H ≤ 32) (hn : n ≤ 4) : Calls Tryz.prog 75 #[.slice c n cap, .agg #[.int .i64 r.v.1, .int .i64 r.v.2]] w fun e w' => BdAns w n H (bdT t r) e w' := by
  obtain ⟨i1, hi, hz0, hz1, hz2⟩ := info_parts infoRow
  have HI := hik hi
  have HZ0 := hik hz0
  have HZ1 := hik hz1
  have HZ2 := hik hz2
  clear hi hz0 hz1 hz2
  have HNH := hik hN
  clear hN
  have X0 := hik (ElB.new w r)
  have HU := hik (RowsE.keep h.out ((Chg.refl nob w).alloc (.cells #[.int .i64 r.v.1, .int .i64 r.v.2] 31)))
  have G0 := hik ((Chg.refl nob w).alloc (.cells #[.int .i64 r.v.1, .int .i64 r.v.2] 31))
  have H0E := hik (show (w.alloc (.cells #[.int .i64 r.v.1, .int .i64 r.v.2] 31)).heap.size = w.heap.size + 1 by simp)
  go_enter Tryz.func75, Tryz.ntmps75
  go_wp2
  generalize hE : w.alloc (.cells #[.int .i64 r.v.1, .int .i64 r.v.2] 31) = W0 at X0 HU G0 H0E ⊢
  clear hE
  go_loopw [5, 6] (fun v i W => ∃ (j : Nat) (A : Nat → Option Addr) (Cc : Nat → Nat) (g cp : Nat), j ≤ n ∧ i = .int .i64 (j : Int) ∧ v = .slice (some ⟨g, 0, none⟩) j cp ∧ Hid (W.ownsRow W0.heap.size 26 1 (.slice (some ⟨g, 0, none⟩) j cp) j ((List.range j).map (fun i => Value.slice (A i) H (Cc i)))) ∧ Hid (TbsO W W0.heap.size g j H A (bdT t r)) ∧ Hid (Chg nob W0 W)) (fun _ i _ => n - (intOf i).toNat)
  case atStart => exact ⟨0, fun _ => none, fun _ => 0, w.heap.size + 1, 0, Nat.zero_le _, rfl, rfl, hik (by rw [← H0E.out]; exact flNone W0 W0.heap.size 26 1 (Nat.le_refl _)), hik (fun i hi => absurd hi (by omega)), hik ((Chg.refl _ _).alloc _)⟩
  case round =>
    obtain ⟨j, A, Cc, g, cp, hj, rfl, rfl, HW, HT, HG⟩ := hrel
    rename World => wi
    by_cases hlt : j < n
    · have hj1 : (j : Int) < (n : Int) := by omega
      have hj0 : (0 : Int) ≤ (j : Int) := by omega
      obtain ⟨xb, xo, A0, C0, ec, hxb, hc, hP⟩ := HU.out j hlt
      subst ec
      have PJ := hik hP
      have x0 := X0.out.c0
      have x1 := X0.out.c1
      have hgl := hik (HW.out.lt g rfl)
      have hsz := HG.out.size
      clear hP
      go_wp2
      have KD := hik ((Chg.refl nob wi).drew1)
      have KW := hik (HG.out.drew1)
      have SA := hik (fun (WW : World) (kW : Chg nob W0 WW) => (show (WW.cell? ⟨w.heap.size, 0, none⟩ = some (.int .i64 r.v.1) ∧ WW.cell? ⟨w.heap.size, 1, none⟩ = some (.int .i64 r.v.2) ∧ WW.cell? ⟨xb, xo + j, none⟩ = some (.slice A0 N C0)) from ⟨kW.see x0, kW.see x1, kW.see hc⟩))
      refine wp_region_held_drew (S := fun w' => w'.cell? ⟨w.heap.size, 0, none⟩ = some (.int .i64 r.v.1) ∧ w'.cell? ⟨w.heap.size, 1, none⟩ = some (.int .i64 r.v.2) ∧ w'.cell? ⟨xb, xo + j, none⟩ = some (.slice A0 N C0)) (by kernel_rfl) (SA.out _ KW.out) (fun hHeld => ?_)
      refine wpAnyH_take (i := 0) (v := ?_) rfl (by kernel_rfl) (by kernel_rfl) (by kernel_rfl) (fun _ _ _ h => h) (Or.inl ⟨by rfl, ?_⟩) (by assumption) ?_
      rotate_left 1
      · (intro w' hSw; (try dsimp only at hSw); go_simp; try with_reducible rfl)
      try simp only [Act.put, List.setIfInBounds_toArray, List.set_cons_zero, List.set_cons_succ, List.getElem_toArray, List.getElem_cons_zero, List.getElem_cons_succ]
      refine wpAnyH_take (i := 1) (v := ?_) rfl (by kernel_rfl) (by kernel_rfl) (by kernel_rfl) (fun _ _ _ h => h) (Or.inl ⟨by rfl, ?_⟩) (by assumption) ?_
      rotate_left 1
      · (intro w' hSw; (try dsimp only at hSw); go_simp; try with_reducible rfl)
      try simp only [Act.put, List.setIfInBounds_toArray, List.set_cons_zero, List.set_cons_succ, List.getElem_toArray, List.getElem_cons_zero, List.getElem_cons_succ]
      refine wpAnyH_take (i := 2) (v := ?_) rfl (by kernel_rfl) (by kernel_rfl) (by kernel_rfl) (fun _ _ _ h => h) (Or.inl ⟨by rfl, ?_⟩) (by assumption) ?_
      rotate_left 1
      · (intro w' hSw; (try dsimp only at hSw); go_simp; try with_reducible rfl)
      try simp only [Act.put, List.setIfInBounds_toArray, List.set_cons_zero, List.set_cons_succ, List.getElem_toArray, List.getElem_cons_zero, List.getElem_cons_succ]
      refine wpAnyH_take (i := 3) (v := ?_) rfl (by kernel_rfl) (by kernel_rfl) (by kernel_rfl) (fun _ _ _ h => h) (Or.inl ⟨by rfl, ?_⟩) (by assumption) ?_
      rotate_left 1
      · (intro w' hSw; (try dsimp only at hSw); go_simp; try with_reducible rfl)
      try simp only [Act.put, List.setIfInBounds_toArray, List.set_cons_zero, List.set_cons_succ, List.getElem_toArray, List.getElem_cons_zero, List.getElem_cons_succ]
      refine wpAnyH_take (i := 4) (v := ?_) rfl (by kernel_rfl) (by kernel_rfl) (by kernel_rfl) (fun _ _ _ h => h) (Or.inl ⟨by rfl, ?_⟩) (by assumption) ?_
      rotate_left 1
      · (intro w' hSw; (try dsimp only at hSw); go_simp; try with_reducible rfl)
      try simp only [Act.put, List.setIfInBounds_toArray, List.set_cons_zero, List.set_cons_succ, List.getElem_toArray, List.getElem_cons_zero, List.getElem_cons_succ]
      refine wpAnyH_take (i := 5) (v := ?_) rfl (by kernel_rfl) (by kernel_rfl) (by kernel_rfl) (fun _ _ _ h => h) (Or.inl ⟨by rfl, ?_⟩) (by assumption) ?_
      rotate_left 1
      · (intro w' hSw; (try dsimp only at hSw); go_simp; try with_reducible rfl)
      try simp only [Act.put, List.setIfInBounds_toArray, List.set_cons_zero, List.set_cons_succ, List.getElem_toArray, List.getElem_cons_zero, List.getElem_cons_succ]
      refine wpAnyH_ready (rs := [6]) (by kernel_rfl) (by simp) ?_
      refine AllReadyH.cons rfl (fun K hK => ?_) AllReadyH.nil
      refine stepL_callN 103 #[.tmp 18, .tmp 19] #[26, 31] (by rfl) (by rfl) #[.slice A0 N C0, .agg #[.int .i64 r.v.1, .int .i64 r.v.2]] (by simp only [List.map_toArray, List.map_cons, List.map_nil] <;> rfl) (run_go Tryz.func103 (by kernel_rfl) (by kernel_rfl) _ _) (sFold_any A0 N C0 H HNH.out hH (t j) r _ (hik (PJ.out.keep KW.out))) ?_
      rintro e U1 ⟨c6, cap6, he, h61, h62, ho6, kk⟩
      obtain ⟨b6, M6, hh6, e6, hb6, r6⟩ := own_row ho6 hH1
      subst e6
      have P6 := hik (show PairE U1 (some ⟨b6, 0, none⟩) H (bdT t r j) from OwnE.pairs ho6)
      have hl6 : b6 < U1.heap.size := r6.lt
      have hbg : b6 ≠ g := by have := hgl.out.2; have := KD.out.size; omega
      have hbB : W0.heap.size ≤ b6 := by have := KD.out.size; omega
      replace HW := hik (flKeep HW.out (KD.out.trans kk))
      replace HT := hik (HT.out.keep (KD.out.trans kk))
      clear ho6 r6 hb6 h61 h62
      refine ⟨_, he, ?_⟩
      replace KW := hik (KW.out.trans kk)
      refine hK.out _ _ (SA.out _ KW.out) (fun hHeld => ?_)
      clear hK K
      try simp only [Act.put, List.setIfInBounds_toArray, List.set_cons_zero, List.set_cons_succ, List.getElem_toArray, List.getElem_cons_zero, List.getElem_cons_succ]
      clear he kk
      refine wpAnyH_ready (rs := [7]) (by kernel_rfl) (by simp) ?_
      refine AllReadyH.cons rfl (fun K hK => ?_) AllReadyH.nil
      simp only [List.getElem_toArray, List.getElem_cons_zero, List.getElem_cons_succ]
      go_simp
      replace KW := hik (KW.out.alloc (.cells #[.slice (some ⟨b6, 0, none⟩) H cap6] 26))
      refine hK.out _ _ (SA.out _ KW.out) (fun hHeld => ?_)
      clear hK K
      try simp only [Act.put, List.setIfInBounds_toArray, List.set_cons_zero, List.set_cons_succ, List.getElem_toArray, List.getElem_cons_zero, List.getElem_cons_succ]
      refine wpAnyH_ready (rs := [8]) (by kernel_rfl) (by simp) ?_
      refine AllReadyH.cons rfl (fun K hK => ?_) AllReadyH.nil
      refine step_append_lies _ (by rfl) (.tmp 14) (.tmp 21) 24 (by rfl) W0.heap.size 26 i1 (.slice none 0 0) 1 24 Tryz.underlying24 HI.out HZ0.out HZ1.out HZ2.out rfl (by decide) _ j _ (by rfl) (HW.out.alloc _) ⟨_, 0, none⟩ 1 1 [.slice (some ⟨b6, 0, none⟩) H cap6] (by rfl) rfl (rwNews _ _ _) (rwOne _ _ _) (by decide) (by unfold maxLen; omega) (by omega) (by have := KW.out.size; simp at this ⊢; omega) _ rfl ?_
      intro g7 cp7 w7 o7 hg7 hat7 hlt7
      have HT2 := hik (TbsO.grown ((TbsO.ext HT.out hbB hbg hl6 P6.out).keep ((Chg.refl nob _).alloc (.cells #[.slice (some ⟨b6, 0, none⟩) H cap6] 26))) hg7 (by
        rcases hat7 with q | q
        · exact .inl (by simpa [Value.ownBlock] using q)
        · exact .inr q))
      replace KW : Hid (Chg nob W0 w7) := hik (KW.out.grown hg7 (fun b e l => absurd (HW.out.lt b e).1 (by omega)))
      have HO : Hid (w7.ownsRow W0.heap.size 26 1 (.slice (some ⟨g7, 0, none⟩) (j + 1) cp7) (j + 1) ((List.range (j + 1)).map (fun i => Value.slice ((fun i => if i = j then some ⟨b6, 0, none⟩ else A i) i) H ((fun i => if i = j then cap6 else Cc i) i)))) := hik (by rw [← rwExt]; exact o7)
      clear o7 hg7 hat7 hlt7
      refine hK.out _ _ (SA.out _ KW.out) (fun hHeld => ?_)
      clear hK K
      try simp only [Act.put, List.setIfInBounds_toArray, List.set_cons_zero, List.set_cons_succ, List.getElem_toArray, List.getElem_cons_zero, List.getElem_cons_succ]
      refine wpAnyH_take (i := 9) (v := ?_) rfl (by kernel_rfl) (by kernel_rfl) (by kernel_rfl) (fun _ _ _ h => h) (Or.inl ⟨by rfl, ?_⟩) (by assumption) ?_
      rotate_left 1
      · (intro w' hSw; (try dsimp only at hSw); go_simp; try with_reducible rfl)
      try simp only [Act.put, List.setIfInBounds_toArray, List.set_cons_zero, List.set_cons_succ, List.getElem_toArray, List.getElem_cons_zero, List.getElem_cons_succ]
      refine wpAnyH_done (by kernel_rfl) ?_ _
      clear SA hHeld x0 x1 hc HW HT P6
      go_wp2
      go_roundw
      case rel => exact ⟨j + 1, _, _, g7, cp7, by omega, by go_num, rfl, HO, HT2, KW⟩
      case measure => simp [intOf]; omega
    · obtain rfl : n = j := by omega
      have hcc : ¬ (n : Int) < (n : Int) := by omega
      go_wp2
      go_ret
      exact ⟨_, cp, rfl, (RowsQ.of_owns HW.out HT.out).mono (fun b hb => ⟨by have := hb.1; have := H0E.out; omega, hb.2⟩), G0.out.trans HG.out⟩

theorem nbv8 {k : Nat} (h : k < 2130706433) : (El.nb k).v.1 = (k : Int) := by simp only [El.nb]; omega

theorem bindN_any (c : Option Addr) (n N H j cap : Nat) (t : Nat → Nat → El) (w : World) (h : Hid (RowsE w c n N t)) (hN : N = 2 * H) (hH1 : 1 ≤ H) (hH : H ≤ 32) (hn : n ≤ 4) (hj : j ≤ 100) : Calls Tryz.prog 75 #[.slice c n cap, .agg #[.int .i64 (j : Int), .int .i64 0]] w fun e w' => BdAns w n H (bdT t (El.nb j)) e w' := by
  have q := sBind8_any c n N H cap t (El.nb j) w h hN hH1 hH hn
  rw [nbv8 (by omega), show (El.nb j).v.2 = 0 from rfl] at q
  exact q

set_option maxHeartbeats 2000000 in
theorem sRound8_any {k : Nat} (hk : k = 1 ∨ k = 2) (c : Option Addr) (n N H cap : Nat) (hn : n = 2 * k) (t : Nat → Nat → El) (w : World) (h : Hid (RowsE w c n N t)) (hN : N = 2 * H) (hH1 : 1 ≤ H) (hH : H ≤ 32) : Calls Tryz.prog 73 #[.int .i64 (k : Int), .slice c n cap] w fun e w' => SlAns w (k + 2) (rdE k t H) e w' := by
  obtain ⟨i0, hi, hz0, hz1, hz2⟩ := info_parts infoExt
  have HI := hik hi
  have HZ0 := hik hz0
  have HZ1 := hik hz1
  have HZ2 := hik hz2
  clear hi hz0 hz1 hz2
  have HNK := hik hn
  have HKK := hik hk
  have HNH := hik hN
  have hk2 : k ≤ 2 := by rcases hk with rfl | rfl <;> omega
  have hn4 : n ≤ 4 := by omega
  obtain ⟨d, hd⟩ : ∃ d, d = k + 1 := ⟨_, rfl⟩
  have HD := hik hd
  have hd3 : d ≤ 3 := by omega
  have hwd : IntKind.i64.wrap ((k : Int) + 1) = (d : Int) := by rw [IntKind.wrap_i64]; omega
  have QD := hik (fun (w : World) => sDeg_any (k : Int) (d : Int) hwd w)
  clear hn hk hN hd
  go_enter Tryz.func73, Tryz.ntmps73
  go_wp2_with fail
  go_loopw [5, 6] (fun v i W => ∃ (j : Nat), j ≤ d + 1 ∧ i = .int .i64 (j : Int) ∧ Hid (W.ownsRow w.heap.size 31 2 v j ((List.range (j * 2)).map (pf (cA (rdE k t H)) (cB (rdE k t H))))) ∧ Hid (Chg nob w W)) (fun _ i _ => d + 1 - (intOf i).toNat)
  case atStart => exact ⟨0, Nat.zero_le _, rfl, hik (flNone w w.heap.size 31 2 (Nat.le_refl _)), hik ((Chg.refl _ _).alloc _)⟩
  case round =>
    obtain ⟨j, hj, rfl, HW, HG⟩ := hrel
    rename World => wi
    by_cases hlt : j ≤ d
    · have hj1 : (j : Int) ≤ (d : Int) := by omega
      have hj3 : j ≤ 3 := by omega
      have HLT := hik hlt
      have hsz := HG.out.size
      go_wp2_with fail
      refine (QD.out _).mono ?_
      rintro e W1 ⟨rfl, hw⟩
      have hw' := hw.symm
      clear hw
      subst hw'
      go_wp2_with fail
      refine (l02Of_any (j : Int) _).mono ?_
      rintro e W2 ⟨rfl, hw⟩
      have k2 : Chg nob wi W2 := by rw [hw]; exact (Chg.refl nob _).alloc _
      have HW2 := hik (flKeep HW.out k2)
      have HG2 := hik (HG.out.trans k2)
      clear hw k2 HW HG
      go_wp2_with fail
      refine (bindN_any c n N H j cap t _ (hik (RowsE.keep h.out HG2.out)) HNH.out hH1 hH hn4 (by omega)).mono ?_
      rintro e W3 ⟨c3, cap3, rfl, hr3, k3⟩
      have R3 := hik hr3.toE
      have HW3 := hik (flKeep HW2.out k3)
      have HG3 := hik (HG2.out.trans k3)
      clear hr3 k3 HW2 HG2
      go_wp2_with fail
      refine (sSum8_any HKK.out c3 n H cap3 HNK.out (bdT t (El.nb j)) _ R3 (by omega)).mono ?_
      rintro e W4 ⟨he, k4⟩
      have he' : e = .returned (.agg #[.int .i64 (rdE k t H j).v.1, .int .i64 (rdE k t H j).v.2]) := he
      clear he
      subst he'
      have HW4 := hik (flKeep HW3.out k4)
      have HG4 := hik (HG3.out.trans k4)
      have hs4 := HG4.out.size
      clear k4 HW3 HG3 R3
      go_wp2_with (at_builtin; refine wpList_append_own _ rfl (.tmp 14) (.tmp 21) 26 rfl w.heap.size 31 i0 (.agg #[.int .i64 0, .int .i64 0]) 2 16 Tryz.underlying26 HI.out HZ0.out HZ1.out HZ2.out rfl (by decide) _ j _ rfl (HW4.out.alloc _) ⟨_, 0, none⟩ 1 1 [.int .i64 (rdE k t H j).v.1, .int .i64 (rdE k t H j).v.2] rfl rfl ?c1 ?c2 ?c3 ?c4 ?c5 ?c6)
      case c1 => exact flNews _ _ _ _
      case c2 => exact flOne _ _
      case c3 => unfold maxLen; have := HD.out; omega
      case c4 => have := HD.out; omega
      case c5 => simp; omega
      case c6 =>
        intro v' w5 hown hgr _
        have HW5 : Hid (w5.ownsRow w.heap.size 31 2 v' (j + 1) ((List.range ((j + 1) * 2)).map (pf (cA (rdE k t H)) (cB (rdE k t H))))) := hik (by rw [← flPair]; exact hown)
        have HG5 := hik ((HG4.out.alloc _).grown hgr (fun i e l => absurd (HW4.out.lt i e).1 (by omega)))
        clear hown hgr HW4 HG4
        go_wp2
        go_roundw
        case rel => exact ⟨j + 1, by have := HLT.out; omega, by go_num, HW5, HG5⟩
        case measure => have := HLT.out; simp [intOf]; omega
    · have hj1 : ¬ (j : Int) ≤ (d : Int) := by omega
      obtain rfl : j = d + 1 := by omega
      have hnum : k + 2 = d + 1 := by have := HD.out; omega
      have HNUM := hik hnum
      clear hnum
      go_wp2_with fail
      refine (QD.out _).mono ?_
      rintro e W1 ⟨rfl, hw⟩
      have hw' := hw.symm
      clear hw
      subst hw'
      go_wp2
      go_ret
      rw [HNUM.out]
      exact SlAns.of_owns HW.out (Nat.le_refl _) HG.out

end Go.Proofs.YtgiefpipflcbgadGreatDoor

namespace Go.Proofs.YtgiefpipflcbgadGreatDoor
open Go.ChangeShapes Go.WideShapes Go.ChangeAt Go.RowKit
set_option linter.unusedVariables false
set_option maxRecDepth 100000
set_option linter.unusedSimpArgs false

/-- The first k of lists of lists copied. -/
def cpr (G L : Nat → Nat) (k i : Nat) : Value := if i < k then .slice (some ⟨G i, 0, none⟩) (L i) (L i) else .slice none 0 0
/-- A copy of lists of lists: a new row at the heap's end, its lists behind it. -/
def CopiedSS (w : World) (n : Nat) (L : Nat → Nat) (f g : Nat → Nat → Int) (e : Ending) (w' : World) : Prop :=
  ∃ G : Nat → Nat, e = .returned (.slice (some ⟨w.heap.size, 0, none⟩) n n) ∧ w'.rowIs w.heap.size 26 n (cpr G L n) ∧ (∀ i, i < n → w.heap.size < G i ∧ w'.rowIs (G i) 31 (L i * 2) (pf (f i) (g i))) ∧ (∀ i j, i < j → j < n → G i < G j) ∧ Chg nob w w'
theorem CopiedSS.rows {w w' : World} {n : Nat} {L G : Nat → Nat} {f g : Nat → Nat → Int} {b : Nat} (h : w'.rowIs b 26 n (cpr G L n)) (k : ∀ i, i < n → w'.rowIs (G i) 31 (L i * 2) (pf (f i) (g i))) : RowsV w' (some ⟨b, 0, none⟩) n (fun i => some ⟨G i, 0, none⟩) L L f g := by
  intro i hi
  refine ⟨b, 0, rfl, h.lt, ?_, PairV.of_row (k i hi) (Nat.le_refl _)⟩
  rw [Nat.zero_add, h.cell hi]
  unfold cpr
  rw [if_pos hi]

end Go.Proofs.YtgiefpipflcbgadGreatDoor
