/- Several texts in one: What the model's roots and paths are: contracts. Conditions: rows that can be read. · What the model's leaves of a word, its words and its CommitTable answer: contracts. Conditions: rows that can be read. -/
import Derived.Test.YtnpmhfhgnnhclarDoorBzba
import Derived.Test.YtnpmhfhgnnhclarDoorBzam
import Derived.Test.YtnpmhfhgnnhclarDoorBzao
import Derived.Test.YtnpmhfhgnnhclarDoorBzaz
import Derived.Test.YtnpmhfhgnnhclarDoorBzaj
import Derived.Test.YtnpmhfhgnnhclarDoorBzaf
import Derived.Test.YtnpmhfhgnnhclarDoorBzbc
namespace Go.Proofs.YtnpmhfhgnnhclarDoor
open Go.ChangeShapes Go.WideShapes Go.ChangeAt Go.RowKit
set_option linter.unusedVariables false
set_option maxRecDepth 100000
set_option linter.unusedSimpArgs false

theorem lsv_top (hh cc : Nat → Nat) (d : Nat) : lsv hh cc d d = .slice (some ⟨hh d, 0, none⟩) 1 (cc d) := by
  unfold lsv; rw [Nat.sub_self]

set_option maxHeartbeats 1000000 in
theorem sRoot_any (c : Option Addr) (n cap d : Nat) (L : Nat → ByteArray) (w : World) (h : Hid (RowV w c n (sb L))) (hz : Hid (∀ i, i < n → (L i).size ≤ 65535)) (hd : d ≤ 8) (hnd : Hid (n = 2 ^ d)) :
    Calls Tryd.prog 12 #[.slice c n cap] w fun e w' => e = .returned (.string (lev L d 0)) ∧ Chg nob w w' := by
  go_enter Tryd.func12, Tryd.ntmps12
  go_wp2_with fail
  refine (sLevels_any c n cap d L _ h hz hd hnd.out).mono ?_
  rintro e W1 ⟨g, capo, hh, cc, rfl, hl, k1⟩
  have HL := hik hl
  have G1 := hik k1
  clear hl k1
  have c0 : W1.cell? ⟨g, d, none⟩ = some (.slice (some ⟨hh d, 0, none⟩) 1 (cc d)) := by rw [← lsv_top]; exact HL.out.cell d (Nat.le_refl _)
  have c1 : W1.cell? ⟨hh d, 0, none⟩ = some (.string (lev L d 0)) := by
    obtain ⟨xb, xo, e, _, hc⟩ := HL.out.row d (Nat.le_refl _) 0 (Nat.two_pow_pos _)
    obtain ⟨rfl, rfl⟩ : hh d = xb ∧ 0 = xo := by simpa using e
    exact hc
  have e1 : ((d : Int) + 1 - 1) = (d : Int) := by omega
  have e2 : (d : Int) < (d : Int) + 1 := by omega
  have hd' : (d : Int) ≤ 8 := by omega
  go_wp2
  go_ret
  exact ⟨rfl, G1.out⟩


end Go.Proofs.YtnpmhfhgnnhclarDoor

namespace Go.Proofs.YtnpmhfhgnnhclarDoor
open Go.ChangeShapes Go.WideShapes Go.ChangeAt Go.RowKit
set_option linter.unusedVariables false
set_option maxRecDepth 100000
set_option linter.unusedSimpArgs false

set_option maxHeartbeats 4000000 in
theorem sLeaves9_any (c : Option Addr) (n cap h : Nat) (t : Nat → El) (w : World) (hp : Hid (PairE w c n t)) (hn : n = 2 * h) (hh : h ≤ 256) (h1 : 1 ≤ h) :
    Calls Tryd.prog 13 #[.slice c n cap] w fun e w' => LsAns w h (lvW t h) e w' := by
  obtain ⟨i0, hi, hz0, hz1, hz2⟩ := info_parts infoSt
  have HI := hik hi
  have HZ0 := hik hz0
  have HZ1 := hik hz1
  have HZ2 := hik hz2
  clear hi hz0 hz1 hz2
  have hq : (n : Int) / 2 = (h : Int) := by omega
  have hn0 : (0 : Int) ≤ (n : Int) := by omega
  have HN := hik hn
  clear hn
  go_enter Tryd.func13, Tryd.ntmps13
  go_wp2
  go_loopw [3, 5] (fun v i W => ∃ (k g cp : Nat), k ≤ h ∧ i = .int .i64 (k : Int) ∧ v = .slice (some ⟨g, 0, none⟩) k cp ∧ Hid (W.ownsRow w.heap.size 9 1 (.slice (some ⟨g, 0, none⟩) k cp) k ((List.range k).map (sb (lvW t h)))) ∧ Hid (Chg nob w W)) (fun _ i _ => h - (intOf i).toNat)
  case atStart => exact ⟨0, w.heap.size, 0, Nat.zero_le _, rfl, rfl, hik (flNone w w.heap.size 9 1 (Nat.le_refl _)), hik ((Chg.refl _ _).alloc _)⟩
  case round =>
    obtain ⟨k, g, cp, hk, rfl, rfl, HW, HG⟩ := hrel
    rename World => wi
    by_cases hlt : k < h
    · have hk1 : (k : Int) < (h : Int) := by omega
      have hk0 : (0 : Int) ≤ (k : Int) := by omega
      have hk2 : (k : Int) < (n : Int) := by have := HN.out; omega
      have hk3 : (k : Int) + (h : Int) < (n : Int) := by have := HN.out; omega
      have hk4 : (k : Int) + (h : Int) ≤ 9223372036854775807 := by omega
      have hk5 : (0 : Int) ≤ (k : Int) + (h : Int) := by omega
      have hk6 : ((k : Int) + (h : Int)).toNat = k + h := by omega
      obtain ⟨xb, xo, ec, hxb, _, _⟩ := PairE.at_ hp.out (i := k) (by have := HN.out; omega)
      subst ec
      have PJ := hik (PairE.keep hp.out HG.out)
      have x0 := PairE.c0 hp.out (i := k) (by have := HN.out; omega)
      have x1 := PairE.c1 hp.out (i := k) (by have := HN.out; omega)
      have y0 := PairE.c0 hp.out (i := k + h) (by have := HN.out; omega)
      have y1 := PairE.c1 hp.out (i := k + h) (by have := HN.out; omega)
      have hsz := HG.out.size
      have hgl := hik (HW.out.lt g rfl)
      go_wp2
      have KD := hik ((Chg.refl nob wi).drew1)
      have KW := hik (HG.out.drew1)
      have SA := hik (fun (WW : World) (kW : Chg nob w WW) => (show (WW.cell? ⟨xb, xo + k * 2, none⟩ = some (.int .i64 (t k).v.1) ∧ WW.cell? ⟨xb, xo + k * 2 + 1, none⟩ = some (.int .i64 (t k).v.2) ∧ WW.cell? ⟨xb, xo + (k + h) * 2, none⟩ = some (.int .i64 (t (k + h)).v.1) ∧ WW.cell? ⟨xb, xo + (k + h) * 2 + 1, none⟩ = some (.int .i64 (t (k + h)).v.2)) from ⟨kW.see x0, kW.see x1, kW.see y0, kW.see y1⟩))
      refine wp_region_held_drew (S := fun w' => w'.cell? ⟨xb, xo + k * 2, none⟩ = some (.int .i64 (t k).v.1) ∧ w'.cell? ⟨xb, xo + k * 2 + 1, none⟩ = some (.int .i64 (t k).v.2) ∧ w'.cell? ⟨xb, xo + (k + h) * 2, none⟩ = some (.int .i64 (t (k + h)).v.1) ∧ w'.cell? ⟨xb, xo + (k + h) * 2 + 1, none⟩ = some (.int .i64 (t (k + h)).v.2)) (by kernel_rfl) (SA.out _ KW.out) (fun hHeld => ?_)
      refine wpAnyH_take (i := 0) (v := ?_) rfl (by kernel_rfl) (by kernel_rfl) (by kernel_rfl) (fun _ _ _ h => h) (Or.inl ⟨by rfl, ?_⟩) (by assumption) ?_
      rotate_left 1
      · (intro w' hSw; (try dsimp only at hSw); go_simp; try with_reducible rfl)
      try simp only [Act.put, List.setIfInBounds_toArray, List.set_cons_zero, List.set_cons_succ, List.getElem_toArray, List.getElem_cons_zero, List.getElem_cons_succ]
      refine wpAnyH_take (i := 1) (v := ?_) rfl (by kernel_rfl) (by kernel_rfl) (by kernel_rfl) (fun _ _ _ h => h) (Or.inl ⟨by rfl, ?_⟩) (by assumption) ?_
      rotate_left 1
      · (intro w' hSw; (try dsimp only at hSw); go_simp; try with_reducible rfl)
      try simp only [Act.put, List.setIfInBounds_toArray, List.set_cons_zero, List.set_cons_succ, List.getElem_toArray, List.getElem_cons_zero, List.getElem_cons_succ]
      refine wpAnyH_take (i := 2) (v := ?_) rfl (by kernel_rfl) (by kernel_rfl) (by kernel_rfl) (fun _ _ _ h => h) (Or.inl ⟨by rfl, ?_⟩) (by assumption) ?_
      rotate_left 1
      · (intro w' hSw; (try dsimp only at hSw); go_simp; try with_reducible rfl)
      try simp only [Act.put, List.setIfInBounds_toArray, List.set_cons_zero, List.set_cons_succ, List.getElem_toArray, List.getElem_cons_zero, List.getElem_cons_succ]
      refine wpAnyH_take (i := 3) (v := ?_) rfl (by kernel_rfl) (by kernel_rfl) (by kernel_rfl) (fun _ _ _ h => h) (Or.inl ⟨by rfl, ?_⟩) (by assumption) ?_
      rotate_left 1
      · (intro w' hSw; (try dsimp only at hSw); go_simp; try with_reducible rfl)
      try simp only [Act.put, List.setIfInBounds_toArray, List.set_cons_zero, List.set_cons_succ, List.getElem_toArray, List.getElem_cons_zero, List.getElem_cons_succ]
      refine wpAnyH_take (i := 4) (v := ?_) rfl (by kernel_rfl) (by kernel_rfl) (by kernel_rfl) (fun _ _ _ h => h) (Or.inl ⟨by rfl, ?_⟩) (by assumption) ?_
      rotate_left 1
      · (intro w' hSw; (try dsimp only at hSw); go_simp; try with_reducible rfl)
      try simp only [Act.put, List.setIfInBounds_toArray, List.set_cons_zero, List.set_cons_succ, List.getElem_toArray, List.getElem_cons_zero, List.getElem_cons_succ]
      refine wpAnyH_take (i := 5) (v := ?_) rfl (by kernel_rfl) (by kernel_rfl) (by kernel_rfl) (fun _ _ _ h => h) (Or.inl ⟨by rfl, ?_⟩) (by assumption) ?_
      rotate_left 1
      · (intro w' hSw; (try dsimp only at hSw); go_simp; try with_reducible rfl)
      try simp only [Act.put, List.setIfInBounds_toArray, List.set_cons_zero, List.set_cons_succ, List.getElem_toArray, List.getElem_cons_zero, List.getElem_cons_succ]
      refine wpAnyH_take (i := 6) (v := ?_) rfl (by kernel_rfl) (by kernel_rfl) (by kernel_rfl) (fun _ _ _ h => h) (Or.inl ⟨by rfl, ?_⟩) (by assumption) ?_
      rotate_left 1
      · (intro w' hSw; (try dsimp only at hSw); go_simp; try with_reducible rfl)
      try simp only [Act.put, List.setIfInBounds_toArray, List.set_cons_zero, List.set_cons_succ, List.getElem_toArray, List.getElem_cons_zero, List.getElem_cons_succ]
      refine wpAnyH_take (i := 7) (v := ?_) rfl (by kernel_rfl) (by kernel_rfl) (by kernel_rfl) (fun _ _ _ h => h) (Or.inl ⟨by rfl, ?_⟩) (by assumption) ?_
      rotate_left 1
      · (intro w' hSw; (try dsimp only at hSw); go_simp; try with_reducible rfl)
      try simp only [Act.put, List.setIfInBounds_toArray, List.set_cons_zero, List.set_cons_succ, List.getElem_toArray, List.getElem_cons_zero, List.getElem_cons_succ]
      refine wpAnyH_take (i := 8) (v := .int .i64 (h : Int)) rfl (by kernel_rfl) (by kernel_rfl) (by kernel_rfl) (fun _ _ _ h => h) (Or.inl ⟨by rfl, ?_⟩) (by assumption) ?_
      · (intro w' hSw; (try dsimp only at hSw); go_simp; (rw [IntKind.wrap_i64]; omega))
      try simp only [Act.put, List.setIfInBounds_toArray, List.set_cons_zero, List.set_cons_succ, List.getElem_toArray, List.getElem_cons_zero, List.getElem_cons_succ]
      refine wpAnyH_take (i := 9) (v := .int .i64 ((k : Int) + (h : Int))) rfl (by kernel_rfl) (by kernel_rfl) (by kernel_rfl) (fun _ _ _ h => h) (Or.inl ⟨by rfl, ?_⟩) (by assumption) ?_
      · (intro w' hSw; (try dsimp only at hSw); go_simp; (rw [IntKind.wrap_i64]; omega))
      try simp only [Act.put, List.setIfInBounds_toArray, List.set_cons_zero, List.set_cons_succ, List.getElem_toArray, List.getElem_cons_zero, List.getElem_cons_succ]
      refine wpAnyH_take (i := 10) (v := ?_) rfl (by kernel_rfl) (by kernel_rfl) (by kernel_rfl) (fun _ _ _ h => h) (Or.inl ⟨by rfl, ?_⟩) (by assumption) ?_
      rotate_left 1
      · (intro w' hSw; (try dsimp only at hSw); go_simp; try with_reducible rfl)
      try simp only [Act.put, List.setIfInBounds_toArray, List.set_cons_zero, List.set_cons_succ, List.getElem_toArray, List.getElem_cons_zero, List.getElem_cons_succ]
      refine wpAnyH_take (i := 11) (v := ?_) rfl (by kernel_rfl) (by kernel_rfl) (by kernel_rfl) (fun _ _ _ h => h) (Or.inl ⟨by rfl, ?_⟩) (by assumption) ?_
      rotate_left 1
      · (intro w' hSw; (try dsimp only at hSw); go_simp; try with_reducible rfl)
      try simp only [Act.put, List.setIfInBounds_toArray, List.set_cons_zero, List.set_cons_succ, List.getElem_toArray, List.getElem_cons_zero, List.getElem_cons_succ]
      refine wpAnyH_ready (rs := [12]) (by kernel_rfl) (by simp) ?_
      refine AllReadyH.cons rfl (fun K hK => ?_) AllReadyH.nil
      simp only [List.getElem_toArray, List.getElem_cons_zero, List.getElem_cons_succ]
      go_simp
      replace KW := hik (KW.out.alloc (.cells #[.int .i64 (t k).v.1, .int .i64 (t k).v.2, .int .i64 (t (k + h)).v.1, .int .i64 (t (k + h)).v.2] 38))
      replace HW := hik (HW.out.alloc (.cells #[.int .i64 (t k).v.1, .int .i64 (t k).v.2, .int .i64 (t (k + h)).v.1, .int .i64 (t (k + h)).v.2] 38))
      refine hK.out _ _ (SA.out _ KW.out) (fun hHeld => ?_)
      clear hK K
      try simp only [Act.put, List.setIfInBounds_toArray, List.set_cons_zero, List.set_cons_succ, List.getElem_toArray, List.getElem_cons_zero, List.getElem_cons_succ]
      refine wpAnyH_ready (rs := [13]) (by kernel_rfl) (by simp) ?_
      refine AllReadyH.cons rfl (fun K hK => ?_) AllReadyH.nil
      refine stepL_callN 25 #[.tmp 27] #[26] (by rfl) (by rfl) #[.slice (some ⟨wi.heap.size, 0, none⟩) 2 2] (by simp only [List.map_toArray, List.map_cons, List.map_nil] <;> rfl) (run_go Tryd.func25 (by kernel_rfl) (by kernel_rfl) _ _) (l02Bytes_any (some ⟨wi.heap.size, 0, none⟩) 2 2 (cA (two (t k) (t (k + h)))) (cB (two (t k) (t (k + h)))) _ (hik (two_pairs wi.drew (t k) (t (k + h)))) (by omega) (hik (okP_el _ _))) ?_
      rintro e U1 ⟨c6, cap6, he, hrow, kk⟩
      have hcv := convB c6 (2 * 8) cap6 (byt (cA (two (t k) (t (k + h)))) (cB (two (t k) (t (k + h))))) U1 hrow
      have hcv : (convert 50 9 (.slice c6 (2 * 8) cap6)).run Tryd.prog U1 = .ok (.string (lvW t h k)) U1 := hcv
      replace HW := hik (flKeep HW.out (((Chg.refl nob _).drew1).trans kk))
      clear hrow
      refine ⟨_, he, ?_⟩
      replace KW := hik (KW.out.trans kk)
      refine hK.out _ _ (SA.out _ KW.out) (fun hHeld => ?_)
      clear hK K
      try simp only [Act.put, List.setIfInBounds_toArray, List.set_cons_zero, List.set_cons_succ, List.getElem_toArray, List.getElem_cons_zero, List.getElem_cons_succ]
      clear he kk
      refine wpAnyH_ready (rs := [14]) (by kernel_rfl) (by simp) ?_
      refine AllReadyH.cons rfl (fun K hK => ?_) AllReadyH.nil
      refine stepL_conv 50 9 (.tmp 28) (by rfl) (by rfl) _ _ _ (by rfl) hcv ?_
      refine hK.out _ _ (SA.out _ KW.out) (fun hHeld => ?_)
      clear hK K
      try simp only [Act.put, List.setIfInBounds_toArray, List.set_cons_zero, List.set_cons_succ, List.getElem_toArray, List.getElem_cons_zero, List.getElem_cons_succ]
      clear hcv
      refine wpAnyH_ready (rs := [15]) (by kernel_rfl) (by simp) ?_
      refine AllReadyH.cons rfl (fun K hK => ?_) AllReadyH.nil
      simp only [List.getElem_toArray, List.getElem_cons_zero, List.getElem_cons_succ]
      go_simp
      replace KW := hik (KW.out.alloc (.cells #[.string (lvW t h k)] 9))
      refine hK.out _ _ (SA.out _ KW.out) (fun hHeld => ?_)
      clear hK K
      try simp only [Act.put, List.setIfInBounds_toArray, List.set_cons_zero, List.set_cons_succ, List.getElem_toArray, List.getElem_cons_zero, List.getElem_cons_succ]
      refine wpAnyH_ready (rs := [16]) (by kernel_rfl) (by simp) ?_
      refine AllReadyH.cons rfl (fun K hK => ?_) AllReadyH.nil
      refine step_append_lies _ (by rfl) (.tmp 15) (.tmp 30) 34 (by rfl) w.heap.size 9 i0 (.string ⟨#[]⟩) 1 16 Tryd.underlying34 HI.out HZ0.out HZ1.out HZ2.out rfl (by decide) _ k _ (by rfl) (HW.out.alloc _) ⟨_, 0, none⟩ 1 1 [.string (lvW t h k)] (by rfl) rfl (rwNews _ _ _) (oneS _) (by decide) (by unfold maxLen; omega) (by omega) (by have := KW.out.size; simp at this ⊢; omega) _ rfl ?_
      intro g7 cp7 w7 o7 hg7 hat7 hlt7
      replace KW : Hid (Chg nob w w7) := hik (KW.out.grown hg7 (fun b e l => absurd (HW.out.lt b e).1 (by omega)))
      have HO : Hid (w7.ownsRow w.heap.size 9 1 (.slice (some ⟨g7, 0, none⟩) (k + 1) cp7) (k + 1) ((List.range (k + 1)).map (sb (lvW t h)))) := hik (by rw [← snocS]; exact o7)
      clear o7 hg7 hat7 hlt7
      refine hK.out _ _ (SA.out _ KW.out) (fun hHeld => ?_)
      clear hK K
      try simp only [Act.put, List.setIfInBounds_toArray, List.set_cons_zero, List.set_cons_succ, List.getElem_toArray, List.getElem_cons_zero, List.getElem_cons_succ]
      refine wpAnyH_take (i := 17) (v := ?_) rfl (by kernel_rfl) (by kernel_rfl) (by kernel_rfl) (fun _ _ _ h => h) (Or.inl ⟨by rfl, ?_⟩) (by assumption) ?_
      rotate_left 1
      · (intro w' hSw; (try dsimp only at hSw); go_simp; try with_reducible rfl)
      try simp only [Act.put, List.setIfInBounds_toArray, List.set_cons_zero, List.set_cons_succ, List.getElem_toArray, List.getElem_cons_zero, List.getElem_cons_succ]
      refine wpAnyH_done (by kernel_rfl) ?_ _
      clear SA hHeld x0 x1 y0 y1 HW
      go_wp2
      go_roundw
      case rel => exact ⟨k + 1, g7, cp7, by omega, by go_num, rfl, HO, KW⟩
      case measure => simp [intOf]; omega
    · obtain rfl : k = h := by omega
      obtain ⟨b0, cap0, e0, hb0, hbl0, hv0⟩ := rowV_of_owns HW.out (by omega)
      cases e0
      have V0 := hik hv0
      clear hv0 HW
      go_wp2
      go_ret
      exact ⟨_, cp, rfl, V0.out, HG.out⟩

/-- The word of a table of 2 to the m values at a rate. -/
def wdE (t : Nat → El) (m q : Nat) : Nat → El := El.nt (m + q) (fitE (El.cfs false t m) (2 ^ m) zE) (El.rtE (m + q))

set_option maxHeartbeats 1000000 in
theorem sWord9_any (c : Option Addr) (n cap m q : Nat) (t : Nat → El) (w : World) (hp : Hid (PairE w c n t)) (hn : n = 2 ^ m) (hm : m ≤ 6) (hq : q ≤ 3) :
    Calls Tryd.prog 14 #[.slice c n cap, .int .i64 (q : Int)] w fun e w' => SlAns w (n * 2 ^ q) (wdE t m q) e w' := by
  have HN := hik hn
  have hmq : m + q ≤ 9 := by omega
  have HV := hik (show El.nt (m + q) (fitE (El.cfs false t m) n zE) (El.rtE (m + q)) = wdE t m q by unfold wdE; rw [hn])
  clear hn
  go_enter Tryd.func14, Tryd.ntmps14
  go_wp2_with fail
  refine (sCoefs_false c n cap m HN.out t _ hp hm).mono ?_
  rintro e W1 ⟨c1, cap1, rfl, q1, q2, o1, k1⟩
  have P1 := hik (show PairE W1 c1 n (El.cfs false t m) from OwnE.pairs o1)
  have G1 := hik k1
  have hs := k1.size
  clear o1 k1 q1 q2
  go_wp2_with fail
  refine (sEncode_any hmq c1 n cap1 (El.cfs false t m) _ HN P1).mono ?_
  rintro e W2 ⟨c2, cap2, rfl, q1, q2, o2, k2⟩
  rw [HV.out] at o2
  have O2 := hik o2
  have G2 := hik (G1.out.trans k2)
  clear o2 k2 G1
  go_wp2
  go_ret
  exact ⟨c2, cap2, rfl, q1, q2, O2.out.low hs, G2.out⟩

/-- A table that can be committed. -/
def v9 (n : Nat) : Bool := p6 n && decide (1 < n)

set_option maxHeartbeats 1000000 in
theorem sVars9_any (n : Nat) (w : World) : Calls Tryd.prog 10 #[.int .i64 (n : Int)] w fun e w' => e = .returned (.bool (v9 n)) ∧ w' = w := by
  cases h1 : p6 n
  · go_enter Tryd.func10, Tryd.ntmps10
    go_wp2_with (go_at_call 23; refine (sPow6_any n _).mono ?_; rintro e w' ⟨rfl, rfl⟩)
    go_ret
    exact ⟨ret_bool (by simp [v9, h1]), rfl⟩
  · by_cases h2 : 1 < n
    · have h3 : (1 : Int) < (n : Int) := by omega
      have H2 := hik h2
      clear h2
      go_enter Tryd.func10, Tryd.ntmps10
      go_wp2_with (go_at_call 23; refine (sPow6_any n _).mono ?_; rintro e w' ⟨rfl, rfl⟩)
      go_ret
      exact ⟨ret_bool (by simp [v9, h1, H2.out]), rfl⟩
    · have h3 : ¬ (1 : Int) < (n : Int) := by omega
      have H2 := hik h2
      clear h2
      go_enter Tryd.func10, Tryd.ntmps10
      go_wp2_with (go_at_call 23; refine (sPow6_any n _).mono ?_; rintro e w' ⟨rfl, rfl⟩)
      go_ret
      exact ⟨ret_bool (by simp [v9, h1, H2.out]; omega), rfl⟩

/-- CommitTable's code, and its root. -/
def cmc (f g : Nat → Int) (n : Nat) (rate : Int) : Int := if 4096 < n then 2 else if tok f g n then (if n ≠ 1 ∧ rtB rate = true then 0 else 4) else 1
def cmr (f g : Nat → Int) (n : Nat) (rate : Int) : ByteArray := if cmc f g n rate = 0 then rtW (wdE (elF f g) (l2 n) rate.toNat) (l2 n + rate.toNat - 1) else ⟨#[]⟩
theorem rtB_nat {rate : Int} (h : rtB rate = true) : ∃ q : Nat, rate = (q : Int) ∧ 1 ≤ q ∧ q ≤ 3 := by
  have := of_decide_eq_true h
  exact ⟨rate.toNat, by omega, by omega, by omega⟩
theorem tok_pow {f g : Nat → Int} {n : Nat} (h : tok f g n = true) : n = 2 ^ l2 n ∧ l2 n ≤ 6 := by
  unfold tok at h
  rw [Bool.and_eq_true] at h
  have h' := h.1
  unfold p6 at h'
  rw [List.any_eq_true] at h'
  obtain ⟨j, hj, e⟩ := h'
  simp only [decide_eq_true_eq] at e
  have hj' : j < 7 := by simpa using hj
  subst e
  rcases (show j = 0 ∨ j = 1 ∨ j = 2 ∨ j = 3 ∨ j = 4 ∨ j = 5 ∨ j = 6 by omega) with rfl | rfl | rfl | rfl | rfl | rfl | rfl <;> decide
theorem tok_ok {f g : Nat → Int} {n : Nat} (h : tok f g n = true) : okP f g n = true := by
  unfold tok at h
  rw [Bool.and_eq_true] at h
  exact h.2
set_option maxHeartbeats 2000000 in
theorem sCommit_any (c : Option Addr) (n cap : Nat) (f g : Nat → Int) (rate : Int) (w : World) (h : Hid (PairV w c n f g)) (hn : n ≤ 1099511627776) :
    Calls Tryd.prog 5 #[.slice c n cap, .int .i64 rate] w fun e w' => e = .returned (.tuple #[.string (cmr f g n rate), .int .i64 (cmc f g n rate)]) ∧ Chg nob w w' := by
  by_cases h1 : 4096 < n
  · have hc : cmc f g n rate = 2 := if_pos h1
    have hr : cmr f g n rate = ⟨#[]⟩ := if_neg (by rw [hc]; decide)
    rw [hc, hr]
    have h1' : (4096 : Int) < (n : Int) := by omega
    clear hc hr
    go_enter Tryd.func5, Tryd.ntmps5
    go_wp2
    go_ret2
    exact ⟨rfl, Chg.refl _ _⟩
  · have h1' : ¬ (4096 : Int) < (n : Int) := by omega
    cases h2 : tok f g n
    · have hc : cmc f g n rate = 1 := by unfold cmc; rw [if_neg h1, h2]; rfl
      have hr : cmr f g n rate = ⟨#[]⟩ := if_neg (by rw [hc]; decide)
      rw [hc, hr]
      clear hc hr
      go_enter Tryd.func5, Tryd.ntmps5
      go_wp2_with (go_at_call 9; refine (sTableOK_any c n cap f g _ h hn).mono ?_; rintro e W1 ⟨rfl, k1⟩; have K1 := hik k1; clear k1)
      go_ret2
      exact ⟨rfl, K1.out⟩
    · have h6 := (tok_p6 h2).1
      by_cases h3 : n ≠ 1 ∧ rtB rate = true
      · have hc : cmc f g n rate = 0 := by unfold cmc; rw [if_neg h1, h2]; exact if_pos h3
        have hr : cmr f g n rate = rtW (wdE (elF f g) (l2 n) rate.toNat) (l2 n + rate.toNat - 1) := if_pos hc
        rw [hc, hr]
        obtain ⟨q, rfl, q1, q3⟩ := rtB_nat h3.2
        obtain ⟨e2, m6⟩ := tok_pow h2
        have PE := hik (PairE.of h.out (tok_ok h2))
        obtain ⟨m, hm⟩ : ∃ m, m = l2 n := ⟨_, rfl⟩
        rw [← hm] at e2 m6 ⊢
        have m1 : 1 ≤ m := by
          rcases Nat.eq_zero_or_pos m with rfl | h'
          · exact absurd e2 h3.1
          · exact h'
        have hn1 : 1 < n := by rw [e2]; exact Nat.one_lt_two_pow (by omega)
        have HE := hik e2
        obtain ⟨d, hd⟩ : ∃ d, d = m + q - 1 := ⟨_, rfl⟩
        have HD := hik hd
        have hd8 : d ≤ 8 := by omega
        have HZN := hik (show n * 2 ^ q = 2 * 2 ^ d by rw [e2, ← Nat.pow_add, hd, show m + q = (m + q - 1) + 1 by omega, Nat.pow_succ]; simp; omega)
        rw [Int.toNat_natCast, ← hd]
        have hin : inW (q : Int) 1 3 = true := decide_eq_true ⟨by omega, by omega⟩
        have hv : v9 n = true := by simp [v9, h6, hn1]
        have H256 : 2 ^ d ≤ 256 := Nat.le_trans (Nat.pow_le_pow_right (by omega) hd8) (by decide)
        have H1d : 1 ≤ 2 ^ d := Nat.one_le_two_pow
        clear hc hr e2 hm hd h3 h6
        go_enter Tryd.func5, Tryd.ntmps5
        go_wp2_with (first | (go_at_call 9; refine (sTableOK_any c n cap f g _ h hn).mono ?_; rintro e W1 ⟨rfl, k1⟩; have K1 := hik k1; clear k1) | (go_at_call 10; refine (sVars9_any n _).mono ?_; rintro e W2 ⟨rfl, hw⟩; have hw := hw.symm; subst hw) | (go_at_call 11; refine (l01In_any _ _ _ _).mono ?_; rintro e W2 ⟨rfl, hw⟩; have hw := hw.symm; subst hw) | (go_at_call 14; fail))
        refine (sWord9_any c n cap m q (elF f g) _ (hik (PE.out.keep K1.out)) HE.out m6 q3).mono ?_
        rintro e W3 ⟨c3, cap3, rfl, _, _, o3, k3⟩
        have P3 := hik (show PairE W3 c3 (n * 2 ^ q) (wdE (elF f g) m q) from OwnE.pairs o3)
        have G3 := hik (K1.out.trans k3)
        clear o3 k3
        go_wp2_with fail
        refine (sLeaves9_any c3 (n * 2 ^ q) cap3 (2 ^ d) (wdE (elF f g) m q) _ P3 HZN.out H256 H1d).mono ?_
        rintro e W4 ⟨c4, cap4, rfl, r4, k4⟩
        have R4 := hik r4
        have G4 := hik (G3.out.trans k4)
        clear r4 k4 G3
        go_wp2_with fail
        refine (sRoot_any c4 (2 ^ d) cap4 d (lvW (wdE (elF f g) m q) (2 ^ d)) _ R4 (hik (fun i _ => by rw [lvW_size]; omega)) hd8 (hik rfl)).mono ?_
        rintro e W5 ⟨rfl, k5⟩
        have G5 := hik (G4.out.trans k5)
        clear k5 G4
        go_wp2
        go_ret2
        exact ⟨rfl, G5.out⟩
      · have hc : cmc f g n rate = 4 := by unfold cmc; rw [if_neg h1, h2]; exact if_neg h3
        have hr : cmr f g n rate = ⟨#[]⟩ := if_neg (by rw [hc]; decide)
        rw [hc, hr]
        clear hc hr
        cases hv : v9 n
        · clear h3
          go_enter Tryd.func5, Tryd.ntmps5
          go_wp2_with (first | (go_at_call 9; refine (sTableOK_any c n cap f g _ h hn).mono ?_; rintro e W1 ⟨rfl, k1⟩; have K1 := hik k1; clear k1) | (go_at_call 10; refine (sVars9_any n _).mono ?_; rintro e W2 ⟨rfl, hw⟩; have hw := hw.symm; subst hw))
          go_ret2
          exact ⟨rfl, K1.out⟩
        · have hin : inW rate 1 3 = false := decide_eq_false (fun x => h3 ⟨by rintro rfl; simp [v9] at hv, decide_eq_true x⟩)
          clear h3
          go_enter Tryd.func5, Tryd.ntmps5
          go_wp2_with (first | (go_at_call 9; refine (sTableOK_any c n cap f g _ h hn).mono ?_; rintro e W1 ⟨rfl, k1⟩; have K1 := hik k1; clear k1) | (go_at_call 10; refine (sVars9_any n _).mono ?_; rintro e W2 ⟨rfl, hw⟩; have hw := hw.symm; subst hw) | (go_at_call 11; refine (l01In_any _ _ _ _).mono ?_; rintro e W2 ⟨rfl, hw⟩; have hw := hw.symm; subst hw))
          go_ret2
          exact ⟨rfl, K1.out⟩

end Go.Proofs.YtnpmhfhgnnhclarDoor
