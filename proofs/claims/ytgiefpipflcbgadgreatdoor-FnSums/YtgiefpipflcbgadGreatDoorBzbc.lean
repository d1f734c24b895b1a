/- Several texts in one: What the laws' likenesses of elements and of sources find. Conditions: rows that can be read, lengths of at most 2 to the 40. · What the laws' likeness of rounds finds. Conditions: lists of lists that can be read, lengths of at most 2 to the 40. · The walk of the law FnSums. Conditions: two lists of bytes that can be read; the two tables lie. -/
import Derived.Test.YtgiefpipflcbgadGreatDoorBzab
import Derived.Test.YtgiefpipflcbgadGreatDoorBzac
import Derived.Deep.QuietTactic
import Derived.BigQuiet
import Derived.Test.YtgiefpipflcbgadGreatDoorBzap
import Derived.Test.YtgiefpipflcbgadGreatDoorBzai
import Derived.Test.YtgiefpipflcbgadGreatDoorSrcV
import Derived.Test.YtgiefpipflcbgadGreatDoorSrcS
import Derived.Test.YtgiefpipflcbgadGreatDoorBzan
namespace Go.Proofs.YtgiefpipflcbgadGreatDoor
open Go.ChangeShapes Go.WideShapes Go.ChangeAt Go.RowKit
set_option linter.unusedVariables false
set_option maxRecDepth 100000
set_option linter.unusedSimpArgs false

set_option maxHeartbeats 1000000 in
theorem sameExts_any (c d : Option Addr) (n m cap cap' : Nat) (f g f' g' : Nat → Int) (w : World) (h : Hid (PairV w c n f g)) (h' : Hid (PairV w d m f' g')) (hm : n = m) (he : ∀ i, i < n → f i = f' i ∧ g i = g' i) (hn : n ≤ 1099511627776) :
    Calls Tryz.prog 17 #[.slice c n cap, .slice d m cap'] w fun e w' => e = .returned (.bool true) ∧ Chg nob w w' := by
  subst hm
  have HE := hide he
  clear he
  go_enter Tryz.func17, Tryz.ntmps17
  go_wp2
  go_loopw [5] (fun i W => ∃ k : Nat, k ≤ n ∧ i = .int .i64 k ∧ Hid (Chg nob w W)) (fun i _ => n - (intOf i).toNat)
  case atStart => exact ⟨0, Nat.zero_le _, rfl, hide (Chg.refl _ _)⟩
  case round =>
    obtain ⟨k, hk, rfl, HC⟩ := hrel
    by_cases hlt : k < n
    · have hk0 : (0 : Int) ≤ (k : Int) := by omega
      have hk1 : (k : Int) < (n : Int) := by omega
      obtain ⟨xb, xo, rfl, hxb, hx0, hx1⟩ := (h.out.keep HC.out) k hlt
      obtain ⟨yb, yo, rfl, hyb, hy0, hy1⟩ := (h'.out.keep HC.out) k hlt
      rw [← (HE.out k hlt).1] at hy0
      rw [← (HE.out k hlt).2] at hy1
      go_wp2
      go_quiet (fail)
      go_wp2
      go_roundw
      case rel => exact ⟨k + 1, by omega, by go_num, hide (HC.out.drewN _)⟩
      case measure => simp [intOf]; omega
    · go_wp2
      go_ret
      exact ⟨rfl, HC.out⟩

set_option maxHeartbeats 1000000 in
theorem sameSource_any (c d : Option Addr) (n cap cap' : Nat) (f g : Nat → Int) (at' : Int) (st : ByteArray) (ct : Int) (w : World) (h : Hid (PairV w c n f g)) (h' : Hid (PairV w d n f g)) (hn : n ≤ 1099511627776) :
    Calls Tryz.prog 13 #[.agg #[.slice c n cap, .int .i64 at', .string st, .int .i64 ct], .agg #[.slice d n cap', .int .i64 at', .string st, .int .i64 ct]] w fun e w' => e = .returned (.bool true) ∧ Chg nob w w' := by
  go_enter Tryz.func13, Tryz.ntmps13
  go_wp2_with fail
  refine (sameExts_any c d n n cap cap' f g f g _ (hik (h.out.keep (((Chg.refl nob w).alloc _).alloc _))) (hik (h'.out.keep (((Chg.refl nob w).alloc _).alloc _))) rfl (fun _ _ => ⟨rfl, rfl⟩) hn).mono ?_
  rintro e W1 ⟨rfl, k1⟩
  have G1 := hik ((((Chg.refl nob w).alloc (.cells #[.slice c n cap, .int .i64 at', .string st, .int .i64 ct] 28)).alloc (.cells #[.slice d n cap', .int .i64 at', .string st, .int .i64 ct] 28)).trans k1)
  have x1 : W1.cell? ⟨w.heap.size, 1, none⟩ = some (.int .i64 at') := k1.look (by go_simp)
  have x2 : W1.cell? ⟨w.heap.size, 2, none⟩ = some (.string st) := k1.look (by go_simp)
  have x3 : W1.cell? ⟨w.heap.size, 3, none⟩ = some (.int .i64 ct) := k1.look (by go_simp)
  have y1 : W1.cell? ⟨w.heap.size + 1, 1, none⟩ = some (.int .i64 at') := k1.look (by go_simp)
  have y2 : W1.cell? ⟨w.heap.size + 1, 2, none⟩ = some (.string st) := k1.look (by go_simp)
  have y3 : W1.cell? ⟨w.heap.size + 1, 3, none⟩ = some (.int .i64 ct) := k1.look (by go_simp)
  clear k1
  go_wp2
  go_ret
  exact ⟨by simp, G1.out⟩

end Go.Proofs.YtgiefpipflcbgadGreatDoor

namespace Go.Proofs.YtgiefpipflcbgadGreatDoor
open Go.ChangeShapes Go.WideShapes Go.ChangeAt Go.RowKit
set_option linter.unusedVariables false
set_option maxRecDepth 100000
set_option linter.unusedSimpArgs false

set_option maxHeartbeats 2000000 in
theorem sameRounds_any (c d : Option Addr) (n cap cap' : Nat) (A A' : Nat → Option Addr) (L C C' : Nat → Nat) (f g f' g' : Nat → Nat → Int) (w : World) (h : Hid (RowsV w c n A L C f g)) (h' : Hid (RowsV w d n A' L C' f' g')) (he : ∀ i, i < n → ∀ j, j < L i → f i j = f' i j ∧ g i j = g' i j) (hL : Hid (∀ i, i < n → L i ≤ 1099511627776)) (hn : n ≤ 1099511627776) :
    Calls Tryz.prog 12 #[.slice c n cap, .slice d n cap'] w fun e w' => e = .returned (.bool true) ∧ Chg nob w w' := by
  have HE := hik he
  clear he
  go_enter Tryz.func12, Tryz.ntmps12
  go_wp2
  go_loopw [5] (fun i W => ∃ k : Nat, k ≤ n ∧ i = .int .i64 (k : Int) ∧ Hid (Chg nob w W)) (fun i _ => n - (intOf i).toNat)
  case atStart => exact ⟨0, Nat.zero_le _, rfl, hik (Chg.refl _ _)⟩
  case round =>
    obtain ⟨k, hk, rfl, HG⟩ := hrel
    rename World => wi
    by_cases hlt : k < n
    · have hk1 : (k : Int) < (n : Int) := by omega
      have hk0 : (0 : Int) ≤ (k : Int) := by omega
      obtain ⟨xb, xo, ec, hxb, x0, hP⟩ := (RowsV.keep h.out HG.out) k hlt
      subst ec
      obtain ⟨yb, yo, ec, hyb, y0, hP'⟩ := (RowsV.keep h'.out HG.out) k hlt
      subst ec
      have PX := hik hP
      have PY := hik hP'
      clear hP hP'
      go_wp2
      have KW := hik ((Chg.refl nob wi).drew1)
      have SA := hik (fun (WW : World) (kW : Chg nob wi WW) => (show (WW.cell? ⟨xb, xo + k, none⟩ = some (.slice (A k) (L k) (C k)) ∧ WW.cell? ⟨yb, yo + k, none⟩ = some (.slice (A' k) (L k) (C' k))) from ⟨kW.see x0, kW.see y0⟩))
      refine wp_region_held_drew (S := fun w' => w'.cell? ⟨xb, xo + k, none⟩ = some (.slice (A k) (L k) (C k)) ∧ w'.cell? ⟨yb, yo + k, none⟩ = some (.slice (A' k) (L k) (C' k))) (by kernel_rfl) ⟨x0, y0⟩ (fun hHeld => ?_)
      refine wpAnyH_take (i := 0) (v := ?_) rfl (by kernel_rfl) (by kernel_rfl) (by kernel_rfl) (fun _ _ _ h => h) (Or.inl ⟨by rfl, ?_⟩) (by assumption) ?_
      rotate_left 1
      · (intro w' hSw; (try dsimp only at hSw); go_simp; try with_reducible rfl)
      try simp only [Act.put, List.setIfInBounds_toArray, List.set_cons_zero, List.set_cons_succ, List.getElem_toArray, List.getElem_cons_zero, List.getElem_cons_succ]
      refine wpAnyH_take (i := 1) (v := ?_) rfl (by kernel_rfl) (by kernel_rfl) (by kernel_rfl) (fun _ _ _ h => h) (Or.inl ⟨by rfl, ?_⟩) (by assumption) ?_
      rotate_left 1
      · (intro w' hSw; (try dsimp only at hSw); go_simp; try with_reducible rfl)
      try simp only [Act.put, List.setIfInBounds_toArray, List.set_cons_zero, List.set_cons_succ, List.getElem_toArray, List.getElem_cons_zero, List.getElem_cons_succ]
      refine wpAnyH_take (i := 2) (v := ?_) rfl (by kernel_rfl) (by kernel_rfl) (by kernel_rfl) (fun _ _ _ h => h) (Or.inl ⟨by rfl, ?_⟩) (by assumption) ?_
      rotate_left 1
      · (intro w' hSw; (try dsimp only at hSw); go_simp; try with_reducible rfl)
      try simp only [Act.put, List.setIfInBounds_toArray, List.set_cons_zero, List.set_cons_succ, List.getElem_toArray, List.getElem_cons_zero, List.getElem_cons_succ]
      refine wpAnyH_take (i := 3) (v := ?_) rfl (by kernel_rfl) (by kernel_rfl) (by kernel_rfl) (fun _ _ _ h => h) (Or.inl ⟨by rfl, ?_⟩) (by assumption) ?_
      rotate_left 1
      · (intro w' hSw; (try dsimp only at hSw); go_simp; try with_reducible rfl)
      try simp only [Act.put, List.setIfInBounds_toArray, List.set_cons_zero, List.set_cons_succ, List.getElem_toArray, List.getElem_cons_zero, List.getElem_cons_succ]
      refine wpAnyH_take (i := 4) (v := ?_) rfl (by kernel_rfl) (by kernel_rfl) (by kernel_rfl) (fun _ _ _ h => h) (Or.inl ⟨by rfl, ?_⟩) (by assumption) ?_
      rotate_left 1
      · (intro w' hSw; (try dsimp only at hSw); go_simp; try with_reducible rfl)
      try simp only [Act.put, List.setIfInBounds_toArray, List.set_cons_zero, List.set_cons_succ, List.getElem_toArray, List.getElem_cons_zero, List.getElem_cons_succ]
      refine wpAnyH_take (i := 5) (v := ?_) rfl (by kernel_rfl) (by kernel_rfl) (by kernel_rfl) (fun _ _ _ h => h) (Or.inl ⟨by rfl, ?_⟩) (by assumption) ?_
      rotate_left 1
      · (intro w' hSw; (try dsimp only at hSw); go_simp; try with_reducible rfl)
      try simp only [Act.put, List.setIfInBounds_toArray, List.set_cons_zero, List.set_cons_succ, List.getElem_toArray, List.getElem_cons_zero, List.getElem_cons_succ]
      refine wpAnyH_take (i := 6) (v := ?_) rfl (by kernel_rfl) (by kernel_rfl) (by kernel_rfl) (fun _ _ _ h => h) (Or.inl ⟨by rfl, ?_⟩) (by assumption) ?_
      rotate_left 1
      · (intro w' hSw; (try dsimp only at hSw); go_simp; try with_reducible rfl)
      try simp only [Act.put, List.setIfInBounds_toArray, List.set_cons_zero, List.set_cons_succ, List.getElem_toArray, List.getElem_cons_zero, List.getElem_cons_succ]
      refine wpAnyH_take (i := 7) (v := ?_) rfl (by kernel_rfl) (by kernel_rfl) (by kernel_rfl) (fun _ _ _ h => h) (Or.inl ⟨by rfl, ?_⟩) (by assumption) ?_
      rotate_left 1
      · (intro w' hSw; (try dsimp only at hSw); go_simp; try with_reducible rfl)
      try simp only [Act.put, List.setIfInBounds_toArray, List.set_cons_zero, List.set_cons_succ, List.getElem_toArray, List.getElem_cons_zero, List.getElem_cons_succ]
      refine wpAnyH_ready (rs := [8]) (by kernel_rfl) (by simp) ?_
      refine AllReadyH.cons rfl (fun K hK => ?_) AllReadyH.nil
      refine stepL_callN 17 #[.tmp 20, .tmp 24] #[26, 26] (by rfl) (by rfl) #[.slice (A k) (L k) (C k), .slice (A' k) (L k) (C' k)] (by simp only [List.map_toArray, List.map_cons, List.map_nil] <;> rfl) (run_go Tryz.func17 (by kernel_rfl) (by kernel_rfl) _ _) (sameExts_any (A k) (A' k) (L k) (L k) (C k) (C' k) (f k) (g k) (f' k) (g' k) _ (hik (PX.out.keep KW.out)) (hik (PY.out.keep KW.out)) rfl (HE.out k hlt) (hL.out k hlt)) ?_
      rintro e U1 ⟨he, kk⟩
      refine ⟨_, he, ?_⟩
      replace KW := hik (KW.out.trans kk)
      refine hK.out _ _ (SA.out _ KW.out) (fun hHeld => ?_)
      clear hK K
      try simp only [Act.put, List.setIfInBounds_toArray, List.set_cons_zero, List.set_cons_succ, List.getElem_toArray, List.getElem_cons_zero, List.getElem_cons_succ]
      clear he kk
      refine wpAnyH_take (i := 9) (v := ?_) rfl (by kernel_rfl) (by kernel_rfl) (by kernel_rfl) (fun _ _ _ h => h) (Or.inl ⟨by rfl, ?_⟩) (by assumption) ?_
      rotate_left 1
      · (intro w' hSw; (try dsimp only at hSw); go_simp; try with_reducible rfl)
      try simp only [Act.put, List.setIfInBounds_toArray, List.set_cons_zero, List.set_cons_succ, List.getElem_toArray, List.getElem_cons_zero, List.getElem_cons_succ]
      refine wpAnyH_done (by kernel_rfl) ?_ _
      have GE := hik (HG.out.trans KW.out)
      clear KW SA hHeld x0 y0 PX PY HG
      go_wp2
      go_roundw
      case rel => exact ⟨k + 1, by omega, by go_num, GE⟩
      case measure => simp [intOf]; omega
    · obtain rfl : n = k := by omega
      have hcc : ¬ (n : Int) < (n : Int) := by omega
      go_wp2
      go_ret
      exact ⟨rfl, HG.out⟩

end Go.Proofs.YtgiefpipflcbgadGreatDoor

namespace Go.Proofs.YtgiefpipflcbgadGreatDoor
open Go.ChangeShapes Go.WideShapes Go.ChangeAt Go.RowKit
set_option linter.unusedVariables false
set_option maxRecDepth 100000
set_option linter.unusedSimpArgs false

theorem bytes_rowW {w : World} {c : Option Addr} {len : Nat} {z : Nat → Int} (h : RowV w c len (bb z)) (hz : isB z) : Bytes w c len := by
  intro i hi
  obtain ⟨xb, xo, e, l, hc⟩ := h i hi
  have := hz i
  exact ⟨xb, xo, z i, e, l, hc, this.1, by omega⟩

set_option maxHeartbeats 8000000 in
theorem walkSums (a0 : Option Addr) (len0 cap0 : Nat) (a1 : Option Addr) (len1 cap1 : Nat) (w : World) (HB0 : Hid (Bytes w a0 len0)) (HB1 : Hid (Bytes w a1 len1)) (hn0 : (len0 : Int) ≤ 9223372036854775807) (hn1 : (len1 : Int) ≤ 9223372036854775807) (ht : Hid (Tabs w)) :
    Calls Tryz.prog 3 #[.slice a0 len0 cap0, .slice a1 len1 cap1] w fun e w' => e = .returned (.bool true) ∧ Below w.heap.size w w' := by
  by_cases hl : 1048576 < (len0 : Int)
  · go_enter Tryz.func3, Tryz.ntmps3
    go_wp2_with fail
    go_ret
    exact ⟨rfl, Below.refl _ _⟩
  by_cases hl1 : 1048576 < (len1 : Int)
  · go_enter Tryz.func3, Tryz.ntmps3
    go_wp2_with fail
    go_ret
    exact ⟨rfl, Below.refl _ _⟩
  go_enter Tryz.func3, Tryz.ntmps3
  go_wp2_with fail
  refine (at_any a1 len1 cap1 0 2 _ (HB1.out.below (Below.refl _ _)) hn1 (by omega) (by omega) (by omega) (by omega)).mono ?_
  rintro e W1 ⟨x1, rfl, hx1, hx2, kk⟩
  replace kk := Chg.of_below kk
  have G := hik kk
  obtain ⟨k, hk⟩ : ∃ k : Nat, (k : Int) = 1 + x1 := ⟨(1 + x1).toNat, by omega⟩
  have hw1 : IntKind.i64.wrap (1 + x1) = (k : Int) := by rw [IntKind.wrap_i64]; omega
  have hk12 : k = 1 ∨ k = 2 := by omega
  have HK := hik hk12
  have hk2 : k ≤ 2 := by omega
  clear hk hx1 hx2 hk12
  clear kk
  go_wp2_with fail
  refine (at_any a1 len1 cap1 1 4 _ (HB1.out.below G.out.belowAll) hn1 (by omega) (by omega) (by omega) (by omega)).mono ?_
  rintro e W2 ⟨x2, rfl, hy1, hy2, kk⟩
  replace kk := Chg.of_below kk
  replace G := hik (G.out.trans kk)
  obtain ⟨v, hv⟩ : ∃ v : Nat, x2 = (v : Int) := ⟨x2.toNat, by omega⟩
  subst hv
  have hv3 : v ≤ 3 := by omega
  have hv6 : v ≤ 6 := by omega
  clear hy1 hy2 hw1
  clear kk
  go_wp2_with fail
  refine (tablesOf_any HK.out v hv3 a0 len0 cap0 _ (HB0.out.below G.out.belowAll) hn0).mono ?_
  rintro e W3 ⟨t, cT, pT, rfl, hT, kk⟩
  replace G := hik (G.out.trans kk)
  have TB := hik (RowsQ.toE hT)
  obtain ⟨n, hn⟩ : ∃ n, n = 2 * k := ⟨_, rfl⟩
  have HN := hik hn
  have hn4 : n ≤ 4 := by omega
  have hn0' : 0 < n := by have := HK.out; omega
  clear hT
  clear kk
  go_wp2_with fail
  refine (sourceOf_any a1 len1 cap1 _ (HB1.out.below G.out.belowAll) hn1).mono ?_
  rintro e W4 ⟨cs, len, caps, f, g, at', st, ct, rfl, hO, hok, h5, ha3, hc3, kk⟩
  replace G := hik (G.out.trans kk)
  replace TB := hik (RowsE.keep TB.out kk)
  have OS := hik hO
  have HOK := hik hok
  have hl64 : len ≤ 64 := by omega
  have hlen : len ≤ 1099511627776 := by omega
  obtain ⟨Sm, hSm⟩ : ∃ x, x = sms k t (2 ^ v) := ⟨_, rfl⟩
  obtain ⟨Gg, hGg⟩ : ∃ x, x = prd k f g len v ⟨t, at', st, ct⟩ := ⟨_, rfl⟩
  obtain ⟨Rr, hRr⟩ : ∃ x, x = ppt k f g len v ⟨t, at', st, ct⟩ := ⟨_, rfl⟩
  obtain ⟨Vv, hVv⟩ : ∃ x, x = pvl k f g len v ⟨t, at', st, ct⟩ := ⟨_, rfl⟩
  obtain ⟨Cc, hCc⟩ : ∃ x, x = cmb k Vv := ⟨_, rfl⟩
  obtain ⟨aa, haa⟩ : ∃ x, x = (pst k f g len v ⟨t, at', st, ct⟩ v).a := ⟨_, rfl⟩
  obtain ⟨ss, hss⟩ : ∃ x, x = (pst k f g len v ⟨t, at', st, ct⟩ v).s := ⟨_, rfl⟩
  obtain ⟨cc, hcc⟩ : ∃ x, x = (pst k f g len v ⟨t, at', st, ct⟩ v).c := ⟨_, rfl⟩
  have HG0 := hik (show 1 ≤ v → rdE k t (2 ^ (v - 1)) = Gg 0 from fun h => by rw [hGg]; unfold prd; rw [Nat.sub_zero]; rfl)
  have QA := hik (fun (c : Option Addr) (cap : Nat) (W : World) (h : Hid (RowsE W c (2 * k) (2 ^ v) t)) => sum_el HK.out hv6 t c cap W h)
  have QB := hik (fun (c : Option Addr) (cap : Nat) (W : World) (h : Hid (RowsE W c (2 * k) (2 ^ v) t)) => sSum_el HK.out hv6 t c cap W h)
  have QC := hik (fun (c : Option Addr) (cap : Nat) (cs : Option Addr) (caps : Nat) (W : World) (h : Hid (RowsE W c (2 * k) (2 ^ v) t)) (hs : Hid (PairV W cs len f g)) (ht : Hid (Tabs W)) => prove_el (t := t) HK.out hv6 HOK.out ha3 hc3 c cap cs caps W h hs ht)
  have QD := hik (fun (c : Option Addr) (cap : Nat) (cs : Option Addr) (caps : Nat) (W : World) (h : Hid (RowsE W c (2 * k) (2 ^ v) t)) (hs : Hid (PairV W cs len f g)) => sProve_el (t := t) HK.out hv6 HOK.out ha3 hc3 c cap cs caps W h hs)
  have QE := hik (fun (c : Option Addr) (cap : Nat) (A : Nat → Option Addr) (C : Nat → Nat) (cs : Option Addr) (caps : Nat) (W : World) (h : Hid (RowsV W c v A (fun _ => k + 2) C (fun i => cA (prd k f g len v ⟨t, at', st, ct⟩ i)) (fun i => cB (prd k f g len v ⟨t, at', st, ct⟩ i)))) (hs : Hid (PairV W cs len f g)) (ht : Hid (Tabs W)) => verify_el (t := t) HK.out hv6 HOK.out ha3 hc3 c cap A C cs caps W h hs ht)
  have QF := hik (fun (c : Option Addr) (cap : Nat) (W : World) (h : Hid (PairE W c (2 * k) Vv)) => cmb_el HK.out Vv c cap W h)
  have QT := hik (fun (i : Nat) (c d : Option Addr) (cap cap' : Nat) (W : World) (h : Hid (PairE W c (2 ^ v) (t i))) (h' : Hid (PairE W d v Rr)) => tat_el hv6 c d cap cap' (t i) Rr W h h')
  have HTV := hik (show ∀ i, El.tat (t i) Rr v = Vv i from fun i => by rw [hVv, hRr]; exact (pvl_tat k f g len v ⟨t, at', st, ct⟩ i).symm)
  simp only [HTV.out] at QT
  have QR := hik (fun (h1 : 1 ≤ v) (c : Option Addr) (cap : Nat) (W : World) (h : Hid (RowsE W c (2 * k) (2 ^ v) t)) => round_el HK.out hv6 h1 t c cap W h)
  rw [← hSm] at QA QB
  rw [← hGg, ← hRr, ← hVv, ← haa, ← hss, ← hcc] at QC QD
  rw [← hSm, ← hGg, ← hRr, ← hVv, ← hCc, ← haa, ← hss, ← hcc] at QE
  rw [← hCc] at QF
  rw [← hn] at QA QB QC QD QF QR TB ⊢
  clear hO hok h5 ha3 hc3 hSm hGg hRr hVv hCc haa hss hcc hn HTV
  clear kk
  go_upto_region 7 with fail
  obtain ⟨q5, hq5⟩ : ∃ q, q = W4.heap.size := ⟨_, rfl⟩
  have kk := (Chg.refl nob W4).alloc (.cells #[.slice cs len caps, .int .i64 at', .string st, .int .i64 ct] 28)
  replace G := hik (G.out.trans kk)
  replace TB := hik (RowsE.keep TB.out kk)
  replace OS := hik (OS.out.keep kk)
  have RS : Hid (World.rowIs (W4.alloc (.cells #[.slice cs len caps, .int .i64 at', .string st, .int .i64 ct] 28)) (q5) 28 4 (pv4 (.slice cs len caps) (.int .i64 at') (.string st) (.int .i64 ct))) := hik (by rw [hq5]; simpa using row4_new W4 (.slice cs len caps) (.int .i64 at') (.string st) (.int .i64 ct) 28)
  clear kk
  rw [← hq5]
  generalize hE : (W4.alloc (.cells #[.slice cs len caps, .int .i64 at', .string st, .int .i64 ct] 28)) = W5 at G TB OS RS ⊢
  clear hE hq5
  go_wp2_with fail
  refine (QA.out cT pT _ TB).mono ?_
  rintro e W6 ⟨rfl, kk⟩
  replace G := hik (G.out.trans kk)
  replace TB := hik (RowsE.keep TB.out kk)
  replace OS := hik (OS.out.keep kk)
  replace RS := hik (rowIs_keep RS.out kk)
  clear kk
  go_upto_region 8 with fail
  obtain ⟨q7, hq7⟩ : ∃ q, q = W6.heap.size := ⟨_, rfl⟩
  have kk := (Chg.refl nob W6).alloc (.cells #[.int .i64 Sm.v.1, .int .i64 Sm.v.2] 31)
  replace G := hik (G.out.trans kk)
  replace TB := hik (RowsE.keep TB.out kk)
  replace OS := hik (OS.out.keep kk)
  replace RS := hik (rowIs_keep RS.out kk)
  have E1 : Hid (World.rowIs (W6.alloc (.cells #[.int .i64 Sm.v.1, .int .i64 Sm.v.2] 31)) (q7) 31 2 (pv2 (.int .i64 Sm.v.1) (.int .i64 Sm.v.2))) := hik (by rw [hq7]; simpa using row2_new W6 (.int .i64 Sm.v.1) (.int .i64 Sm.v.2) 31)
  clear kk
  rw [← hq7]
  generalize hE : (W6.alloc (.cells #[.int .i64 Sm.v.1, .int .i64 Sm.v.2] 31)) = W7 at G TB OS RS E1 ⊢
  clear hE hq7
  go_wp2_with fail
  refine (QB.out cT pT _ TB).mono ?_
  rintro e W8 ⟨rfl, kk⟩
  replace G := hik (G.out.trans kk)
  replace TB := hik (RowsE.keep TB.out kk)
  replace OS := hik (OS.out.keep kk)
  replace RS := hik (rowIs_keep RS.out kk)
  replace E1 := hik (rowIs_keep E1.out kk)
  clear kk
  go_upto_region 9 with fail
  obtain ⟨q9, hq9⟩ : ∃ q, q = W8.heap.size := ⟨_, rfl⟩
  have kk := (Chg.refl nob W8).alloc (.cells #[.int .i64 Sm.v.1, .int .i64 Sm.v.2] 31)
  replace G := hik (G.out.trans kk)
  replace TB := hik (RowsE.keep TB.out kk)
  replace OS := hik (OS.out.keep kk)
  replace RS := hik (rowIs_keep RS.out kk)
  replace E1 := hik (rowIs_keep E1.out kk)
  have E2 : Hid (World.rowIs (W8.alloc (.cells #[.int .i64 Sm.v.1, .int .i64 Sm.v.2] 31)) (q9) 31 2 (pv2 (.int .i64 Sm.v.1) (.int .i64 Sm.v.2))) := hik (by rw [hq9]; simpa using row2_new W8 (.int .i64 Sm.v.1) (.int .i64 Sm.v.2) 31)
  clear kk
  rw [← hq9]
  generalize hE : (W8.alloc (.cells #[.int .i64 Sm.v.1, .int .i64 Sm.v.2] 31)) = W9 at G TB OS RS E1 E2 ⊢
  clear hE hq9
  have zRS : q5 < W9.heap.size := RS.out.lt
  have xRS0 : W9.cell? ⟨q5, 0, none⟩ = some (.slice cs len caps) := RS.out.cell (by omega)
  have xRS1 : W9.cell? ⟨q5, 1, none⟩ = some (.int .i64 at') := RS.out.cell (by omega)
  have xRS2 : W9.cell? ⟨q5, 2, none⟩ = some (.string st) := RS.out.cell (by omega)
  have xRS3 : W9.cell? ⟨q5, 3, none⟩ = some (.int .i64 ct) := RS.out.cell (by omega)
  go_wp2_with fail
  refine (QC.out cT pT cs caps _ TB (hik OS.out.pairs) (hik (ht.out.keep G.out))).mono ?_
  rintro e W10 ⟨cR, pR, H, Cr, cP, pP, cV, pV, cS, pS, rfl, hR, hP, hV, hS, hap, kk⟩
  clear zRS xRS0 xRS1 xRS2 xRS3
  replace G := hik (G.out.trans kk)
  replace TB := hik (RowsE.keep TB.out kk)
  replace OS := hik (OS.out.keep kk)
  replace RS := hik (rowIs_keep RS.out kk)
  replace E1 := hik (rowIs_keep E1.out kk)
  replace E2 := hik (rowIs_keep E2.out kk)
  have RW := hik hR.rows
  have PP := hik (OwnE.pairs hP)
  have PV := hik (OwnE.pairs hV)
  have PS1 := hik hS.pairs
  clear hR hP hV hS hap
  clear kk
  go_upto_region 10 with fail
  obtain ⟨q11, hq11⟩ : ∃ q, q = W10.heap.size := ⟨_, rfl⟩
  have kk := (Chg.refl nob W10).alloc (.cells #[.slice cS len pS, .int .i64 aa, .string ss, .int .i64 cc] 28)
  replace G := hik (G.out.trans kk)
  replace TB := hik (RowsE.keep TB.out kk)
  replace OS := hik (OS.out.keep kk)
  replace RS := hik (rowIs_keep RS.out kk)
  replace E1 := hik (rowIs_keep E1.out kk)
  replace E2 := hik (rowIs_keep E2.out kk)
  replace RW := hik (RowsV.keep RW.out kk)
  replace PP := hik (PairE.keep PP.out kk)
  replace PV := hik (PairE.keep PV.out kk)
  replace PS1 := hik (PairV.keep PS1.out kk)
  have R1 : Hid (World.rowIs (W10.alloc (.cells #[.slice cS len pS, .int .i64 aa, .string ss, .int .i64 cc] 28)) (q11) 28 4 (pv4 (.slice cS len pS) (.int .i64 aa) (.string ss) (.int .i64 cc))) := hik (by rw [hq11]; simpa using row4_new W10 (.slice cS len pS) (.int .i64 aa) (.string ss) (.int .i64 cc) 28)
  clear kk
  rw [← hq11]
  generalize hE : (W10.alloc (.cells #[.slice cS len pS, .int .i64 aa, .string ss, .int .i64 cc] 28)) = W11 at G TB OS RS E1 E2 RW PP PV PS1 R1 ⊢
  clear hE hq11
  have zRS : q5 < W11.heap.size := RS.out.lt
  have xRS0 : W11.cell? ⟨q5, 0, none⟩ = some (.slice cs len caps) := RS.out.cell (by omega)
  have xRS1 : W11.cell? ⟨q5, 1, none⟩ = some (.int .i64 at') := RS.out.cell (by omega)
  have xRS2 : W11.cell? ⟨q5, 2, none⟩ = some (.string st) := RS.out.cell (by omega)
  have xRS3 : W11.cell? ⟨q5, 3, none⟩ = some (.int .i64 ct) := RS.out.cell (by omega)
  go_wp2_with fail
  refine (QD.out cT pT cs caps _ TB (hik OS.out.pairs)).mono ?_
  rintro e W12 ⟨dR, eR, dP, eP, dV, eV, dS, eS, rfl, hR, hP, hV, hS, kk⟩
  clear zRS xRS0 xRS1 xRS2 xRS3
  replace G := hik (G.out.trans kk)
  replace TB := hik (RowsE.keep TB.out kk)
  replace OS := hik (OS.out.keep kk)
  replace RS := hik (rowIs_keep RS.out kk)
  replace E1 := hik (rowIs_keep E1.out kk)
  replace E2 := hik (rowIs_keep E2.out kk)
  replace RW := hik (RowsV.keep RW.out kk)
  replace PP := hik (PairE.keep PP.out kk)
  replace PV := hik (PairE.keep PV.out kk)
  replace PS1 := hik (PairV.keep PS1.out kk)
  replace R1 := hik (rowIs_keep R1.out kk)
  obtain ⟨A2, C2, hv2⟩ := RowsE.toV (RowsQ.toE hR)
  have RW2 := hik hv2
  have PS2 := hik hS.pairs
  clear hR hP hV hS hv2
  clear kk
  go_upto_region 11 with fail
  obtain ⟨q13, hq13⟩ : ∃ q, q = W12.heap.size := ⟨_, rfl⟩
  have kk := (Chg.refl nob W12).alloc (.cells #[.slice dS len eS, .int .i64 aa, .string ss, .int .i64 cc] 28)
  replace G := hik (G.out.trans kk)
  replace TB := hik (RowsE.keep TB.out kk)
  replace OS := hik (OS.out.keep kk)
  replace RS := hik (rowIs_keep RS.out kk)
  replace E1 := hik (rowIs_keep E1.out kk)
  replace E2 := hik (rowIs_keep E2.out kk)
  replace RW := hik (RowsV.keep RW.out kk)
  replace PP := hik (PairE.keep PP.out kk)
  replace PV := hik (PairE.keep PV.out kk)
  replace PS1 := hik (PairV.keep PS1.out kk)
  replace R1 := hik (rowIs_keep R1.out kk)
  replace RW2 := hik (RowsV.keep RW2.out kk)
  replace PS2 := hik (PairV.keep PS2.out kk)
  have R2 : Hid (World.rowIs (W12.alloc (.cells #[.slice dS len eS, .int .i64 aa, .string ss, .int .i64 cc] 28)) (q13) 28 4 (pv4 (.slice dS len eS) (.int .i64 aa) (.string ss) (.int .i64 cc))) := hik (by rw [hq13]; simpa using row4_new W12 (.slice dS len eS) (.int .i64 aa) (.string ss) (.int .i64 cc) 28)
  clear kk
  rw [← hq13]
  generalize hE : (W12.alloc (.cells #[.slice dS len eS, .int .i64 aa, .string ss, .int .i64 cc] 28)) = W13 at G TB OS RS E1 E2 RW PP PV PS1 R1 RW2 PS2 R2 ⊢
  clear hE hq13
  have zE1 : q7 < W13.heap.size := E1.out.lt
  have xE10 : W13.cell? ⟨q7, 0, none⟩ = some (.int .i64 Sm.v.1) := E1.out.cell (by omega)
  have xE11 : W13.cell? ⟨q7, 1, none⟩ = some (.int .i64 Sm.v.2) := E1.out.cell (by omega)
  have zE2 : q9 < W13.heap.size := E2.out.lt
  have xE20 : W13.cell? ⟨q9, 0, none⟩ = some (.int .i64 Sm.v.1) := E2.out.cell (by omega)
  have xE21 : W13.cell? ⟨q9, 1, none⟩ = some (.int .i64 Sm.v.2) := E2.out.cell (by omega)
  go_wp2_with fail
  refine (sameRounds_any cR dR v pR eR _ _ (fun _ => k + 2) _ _ _ _ _ _ _ RW RW2 (fun _ _ _ _ => ⟨rfl, rfl⟩) (hik (fun i _ => by show k + 2 ≤ _; omega)) (by omega)).mono ?_
  rintro e W14 ⟨rfl, kk⟩
  clear zE1 xE10 xE11 zE2 xE20 xE21
  replace G := hik (G.out.trans kk)
  replace TB := hik (RowsE.keep TB.out kk)
  replace OS := hik (OS.out.keep kk)
  replace RS := hik (rowIs_keep RS.out kk)
  replace E1 := hik (rowIs_keep E1.out kk)
  replace E2 := hik (rowIs_keep E2.out kk)
  replace RW := hik (RowsV.keep RW.out kk)
  replace PP := hik (PairE.keep PP.out kk)
  replace PV := hik (PairE.keep PV.out kk)
  replace PS1 := hik (PairV.keep PS1.out kk)
  replace R1 := hik (rowIs_keep R1.out kk)
  replace RW2 := hik (RowsV.keep RW2.out kk)
  replace PS2 := hik (PairV.keep PS2.out kk)
  replace R2 := hik (rowIs_keep R2.out kk)
  clear kk
  have zR1 : q11 < W14.heap.size := R1.out.lt
  have xR10 : W14.cell? ⟨q11, 0, none⟩ = some (.slice cS len pS) := R1.out.cell (by omega)
  have xR11 : W14.cell? ⟨q11, 1, none⟩ = some (.int .i64 aa) := R1.out.cell (by omega)
  have xR12 : W14.cell? ⟨q11, 2, none⟩ = some (.string ss) := R1.out.cell (by omega)
  have xR13 : W14.cell? ⟨q11, 3, none⟩ = some (.int .i64 cc) := R1.out.cell (by omega)
  have zR2 : q13 < W14.heap.size := R2.out.lt
  have xR20 : W14.cell? ⟨q13, 0, none⟩ = some (.slice dS len eS) := R2.out.cell (by omega)
  have xR21 : W14.cell? ⟨q13, 1, none⟩ = some (.int .i64 aa) := R2.out.cell (by omega)
  have xR22 : W14.cell? ⟨q13, 2, none⟩ = some (.string ss) := R2.out.cell (by omega)
  have xR23 : W14.cell? ⟨q13, 3, none⟩ = some (.int .i64 cc) := R2.out.cell (by omega)
  go_wp2_with fail
  refine (sameSource_any cS dS len pS eS f g aa ss cc _ PS1 PS2 hlen).mono ?_
  rintro e W15 ⟨rfl, kk⟩
  clear zR1 xR10 xR11 xR12 xR13 zR2 xR20 xR21 xR22 xR23
  replace G := hik (G.out.trans kk)
  replace TB := hik (RowsE.keep TB.out kk)
  replace OS := hik (OS.out.keep kk)
  replace RS := hik (rowIs_keep RS.out kk)
  replace E1 := hik (rowIs_keep E1.out kk)
  replace E2 := hik (rowIs_keep E2.out kk)
  replace RW := hik (RowsV.keep RW.out kk)
  replace PP := hik (PairE.keep PP.out kk)
  replace PV := hik (PairE.keep PV.out kk)
  replace PS1 := hik (PairV.keep PS1.out kk)
  replace R1 := hik (rowIs_keep R1.out kk)
  replace RW2 := hik (RowsV.keep RW2.out kk)
  replace PS2 := hik (PairV.keep PS2.out kk)
  replace R2 := hik (rowIs_keep R2.out kk)
  clear kk
  clear RW2 PS2 R2 E2
  have zE1 : q7 < W15.heap.size := E1.out.lt
  have xE10 : W15.cell? ⟨q7, 0, none⟩ = some (.int .i64 Sm.v.1) := E1.out.cell (by omega)
  have xE11 : W15.cell? ⟨q7, 1, none⟩ = some (.int .i64 Sm.v.2) := E1.out.cell (by omega)
  have zRS : q5 < W15.heap.size := RS.out.lt
  have xRS0 : W15.cell? ⟨q5, 0, none⟩ = some (.slice cs len caps) := RS.out.cell (by omega)
  have xRS1 : W15.cell? ⟨q5, 1, none⟩ = some (.int .i64 at') := RS.out.cell (by omega)
  have xRS2 : W15.cell? ⟨q5, 2, none⟩ = some (.string st) := RS.out.cell (by omega)
  have xRS3 : W15.cell? ⟨q5, 3, none⟩ = some (.int .i64 ct) := RS.out.cell (by omega)
  go_wp2_with fail
  refine (QE.out cR pR _ _ cs caps _ RW (hik OS.out.pairs) (hik (ht.out.keep G.out))).mono ?_
  rintro e W16 ⟨cQ, pQ, cU, pU, rfl, hP, hS, hap, kk⟩
  clear zE1 xE10 xE11 zRS xRS0 xRS1 xRS2 xRS3
  replace G := hik (G.out.trans kk)
  replace TB := hik (RowsE.keep TB.out kk)
  replace OS := hik (OS.out.keep kk)
  replace RS := hik (rowIs_keep RS.out kk)
  replace E1 := hik (rowIs_keep E1.out kk)
  replace RW := hik (RowsV.keep RW.out kk)
  replace PP := hik (PairE.keep PP.out kk)
  replace PV := hik (PairE.keep PV.out kk)
  replace PS1 := hik (PairV.keep PS1.out kk)
  replace R1 := hik (rowIs_keep R1.out kk)
  have PQ := hik (OwnE.pairs hP)
  have PS3 := hik hS.pairs
  clear hP hS hap
  clear kk
  go_upto_region 14 with fail
  obtain ⟨q17, hq17⟩ : ∃ q, q = W16.heap.size := ⟨_, rfl⟩
  have kk := ((Chg.refl nob W16).alloc (.cells #[.int .i64 Cc.v.1, .int .i64 Cc.v.2] 31)).alloc (.cells #[.slice cU len pU, .int .i64 aa, .string ss, .int .i64 cc] 28)
  replace G := hik (G.out.trans kk)
  replace TB := hik (RowsE.keep TB.out kk)
  replace OS := hik (OS.out.keep kk)
  replace RS := hik (rowIs_keep RS.out kk)
  replace E1 := hik (rowIs_keep E1.out kk)
  replace RW := hik (RowsV.keep RW.out kk)
  replace PP := hik (PairE.keep PP.out kk)
  replace PV := hik (PairE.keep PV.out kk)
  replace PS1 := hik (PairV.keep PS1.out kk)
  replace R1 := hik (rowIs_keep R1.out kk)
  replace PQ := hik (PairE.keep PQ.out kk)
  replace PS3 := hik (PairV.keep PS3.out kk)
  have E3 : Hid (World.rowIs ((W16.alloc (.cells #[.int .i64 Cc.v.1, .int .i64 Cc.v.2] 31)).alloc (.cells #[.slice cU len pU, .int .i64 aa, .string ss, .int .i64 cc] 28)) (q17) 31 2 (pv2 (.int .i64 Cc.v.1) (.int .i64 Cc.v.2))) := hik (by rw [hq17]; simpa using World.rowIs.alloc (row2_new W16 (.int .i64 Cc.v.1) (.int .i64 Cc.v.2) 31) (.cells #[.slice cU len pU, .int .i64 aa, .string ss, .int .i64 cc] 28))
  have R3 : Hid (World.rowIs ((W16.alloc (.cells #[.int .i64 Cc.v.1, .int .i64 Cc.v.2] 31)).alloc (.cells #[.slice cU len pU, .int .i64 aa, .string ss, .int .i64 cc] 28)) (q17 + 1) 28 4 (pv4 (.slice cU len pU) (.int .i64 aa) (.string ss) (.int .i64 cc))) := hik (by rw [hq17]; simpa using row4_new (W16.alloc (.cells #[.int .i64 Cc.v.1, .int .i64 Cc.v.2] 31)) (.slice cU len pU) (.int .i64 aa) (.string ss) (.int .i64 cc) 28)
  clear kk
  rw [← hq17]
  generalize hE : ((W16.alloc (.cells #[.int .i64 Cc.v.1, .int .i64 Cc.v.2] 31)).alloc (.cells #[.slice cU len pU, .int .i64 aa, .string ss, .int .i64 cc] 28)) = W17 at G TB OS RS E1 RW PP PV PS1 R1 PQ PS3 E3 R3 ⊢
  clear hE hq17
  go_wp2_with fail
  refine (QF.out cV pV _ PV).mono ?_
  rintro e W18 ⟨rfl, kk⟩
  replace G := hik (G.out.trans kk)
  replace TB := hik (RowsE.keep TB.out kk)
  replace OS := hik (OS.out.keep kk)
  replace RS := hik (rowIs_keep RS.out kk)
  replace E1 := hik (rowIs_keep E1.out kk)
  replace RW := hik (RowsV.keep RW.out kk)
  replace PP := hik (PairE.keep PP.out kk)
  replace PV := hik (PairE.keep PV.out kk)
  replace PS1 := hik (PairV.keep PS1.out kk)
  replace R1 := hik (rowIs_keep R1.out kk)
  replace PQ := hik (PairE.keep PQ.out kk)
  replace PS3 := hik (PairV.keep PS3.out kk)
  replace E3 := hik (rowIs_keep E3.out kk)
  replace R3 := hik (rowIs_keep R3.out kk)
  clear kk
  go_upto_region 15 with fail
  obtain ⟨q19, hq19⟩ : ∃ q, q = W18.heap.size := ⟨_, rfl⟩
  have kk := (Chg.refl nob W18).alloc (.cells #[.int .i64 Cc.v.1, .int .i64 Cc.v.2] 31)
  replace G := hik (G.out.trans kk)
  replace TB := hik (RowsE.keep TB.out kk)
  replace OS := hik (OS.out.keep kk)
  replace RS := hik (rowIs_keep RS.out kk)
  replace E1 := hik (rowIs_keep E1.out kk)
  replace RW := hik (RowsV.keep RW.out kk)
  replace PP := hik (PairE.keep PP.out kk)
  replace PV := hik (PairE.keep PV.out kk)
  replace PS1 := hik (PairV.keep PS1.out kk)
  replace R1 := hik (rowIs_keep R1.out kk)
  replace PQ := hik (PairE.keep PQ.out kk)
  replace PS3 := hik (PairV.keep PS3.out kk)
  replace E3 := hik (rowIs_keep E3.out kk)
  replace R3 := hik (rowIs_keep R3.out kk)
  have E4 : Hid (World.rowIs (W18.alloc (.cells #[.int .i64 Cc.v.1, .int .i64 Cc.v.2] 31)) (q19) 31 2 (pv2 (.int .i64 Cc.v.1) (.int .i64 Cc.v.2))) := hik (by rw [hq19]; simpa using row2_new W18 (.int .i64 Cc.v.1) (.int .i64 Cc.v.2) 31)
  clear kk
  rw [← hq19]
  generalize hE : (W18.alloc (.cells #[.int .i64 Cc.v.1, .int .i64 Cc.v.2] 31)) = W19 at G TB OS RS E1 RW PP PV PS1 R1 PQ PS3 E3 R3 E4 ⊢
  clear hE hq19
  go_wp2_with fail
  refine (deg_el HK.out _).mono ?_
  rintro e W20 ⟨rfl, kk⟩
  replace G := hik (G.out.trans kk)
  replace TB := hik (RowsE.keep TB.out kk)
  replace OS := hik (OS.out.keep kk)
  replace RS := hik (rowIs_keep RS.out kk)
  replace E1 := hik (rowIs_keep E1.out kk)
  replace RW := hik (RowsV.keep RW.out kk)
  replace PP := hik (PairE.keep PP.out kk)
  replace PV := hik (PairE.keep PV.out kk)
  replace PS1 := hik (PairV.keep PS1.out kk)
  replace R1 := hik (rowIs_keep R1.out kk)
  replace PQ := hik (PairE.keep PQ.out kk)
  replace PS3 := hik (PairV.keep PS3.out kk)
  replace E3 := hik (rowIs_keep E3.out kk)
  replace R3 := hik (rowIs_keep R3.out kk)
  replace E4 := hik (rowIs_keep E4.out kk)
  clear kk
  go_wp2_with fail
  refine (sameExts_any cQ cP v v pQ pP _ _ _ _ _ PQ PP rfl (fun _ _ => ⟨rfl, rfl⟩) (by omega)).mono ?_
  rintro e W21 ⟨rfl, kk⟩
  replace G := hik (G.out.trans kk)
  replace TB := hik (RowsE.keep TB.out kk)
  replace OS := hik (OS.out.keep kk)
  replace RS := hik (rowIs_keep RS.out kk)
  replace E1 := hik (rowIs_keep E1.out kk)
  replace RW := hik (RowsV.keep RW.out kk)
  replace PP := hik (PairE.keep PP.out kk)
  replace PV := hik (PairE.keep PV.out kk)
  replace PS1 := hik (PairV.keep PS1.out kk)
  replace R1 := hik (rowIs_keep R1.out kk)
  replace PQ := hik (PairE.keep PQ.out kk)
  replace PS3 := hik (PairV.keep PS3.out kk)
  replace E3 := hik (rowIs_keep E3.out kk)
  replace R3 := hik (rowIs_keep R3.out kk)
  replace E4 := hik (rowIs_keep E4.out kk)
  clear kk
  have zR3 : q17 + 1 < W21.heap.size := R3.out.lt
  have xR30 : W21.cell? ⟨q17 + 1, 0, none⟩ = some (.slice cU len pU) := R3.out.cell (by omega)
  have xR31 : W21.cell? ⟨q17 + 1, 1, none⟩ = some (.int .i64 aa) := R3.out.cell (by omega)
  have xR32 : W21.cell? ⟨q17 + 1, 2, none⟩ = some (.string ss) := R3.out.cell (by omega)
  have xR33 : W21.cell? ⟨q17 + 1, 3, none⟩ = some (.int .i64 cc) := R3.out.cell (by omega)
  have zR1 : q11 < W21.heap.size := R1.out.lt
  have xR10 : W21.cell? ⟨q11, 0, none⟩ = some (.slice cS len pS) := R1.out.cell (by omega)
  have xR11 : W21.cell? ⟨q11, 1, none⟩ = some (.int .i64 aa) := R1.out.cell (by omega)
  have xR12 : W21.cell? ⟨q11, 2, none⟩ = some (.string ss) := R1.out.cell (by omega)
  have xR13 : W21.cell? ⟨q11, 3, none⟩ = some (.int .i64 cc) := R1.out.cell (by omega)
  go_wp2_with fail
  refine (sameSource_any cU cS len pU pS f g aa ss cc _ PS3 PS1 hlen).mono ?_
  rintro e W22 ⟨rfl, kk⟩
  clear zR3 xR30 xR31 xR32 xR33 zR1 xR10 xR11 xR12 xR13
  replace G := hik (G.out.trans kk)
  replace TB := hik (RowsE.keep TB.out kk)
  replace OS := hik (OS.out.keep kk)
  replace RS := hik (rowIs_keep RS.out kk)
  replace E1 := hik (rowIs_keep E1.out kk)
  replace RW := hik (RowsV.keep RW.out kk)
  replace PP := hik (PairE.keep PP.out kk)
  replace PV := hik (PairE.keep PV.out kk)
  replace PS1 := hik (PairV.keep PS1.out kk)
  replace R1 := hik (rowIs_keep R1.out kk)
  replace PQ := hik (PairE.keep PQ.out kk)
  replace PS3 := hik (PairV.keep PS3.out kk)
  replace E3 := hik (rowIs_keep E3.out kk)
  replace R3 := hik (rowIs_keep R3.out kk)
  replace E4 := hik (rowIs_keep E4.out kk)
  clear kk
  have zE4 : q19 < W22.heap.size := E4.out.lt
  have xE40 : W22.cell? ⟨q19, 0, none⟩ = some (.int .i64 Cc.v.1) := E4.out.cell (by omega)
  have xE41 : W22.cell? ⟨q19, 1, none⟩ = some (.int .i64 Cc.v.2) := E4.out.cell (by omega)
  have zE3 : q17 < W22.heap.size := E3.out.lt
  have xE30 : W22.cell? ⟨q17, 0, none⟩ = some (.int .i64 Cc.v.1) := E3.out.cell (by omega)
  have xE31 : W22.cell? ⟨q17, 1, none⟩ = some (.int .i64 Cc.v.2) := E3.out.cell (by omega)
  go_upto_region 18 with fail
  clear zE4 xE40 xE41 zE3 xE30 xE31
  clear PQ PS3 R3 R1 PS1 E3 E4 E1 RS OS QA QB QC QD QE QF
  have hwk : IntKind.i64.wrap ((k : Int) + 1 + 1) = ((k + 2 : Nat) : Int) := by rw [IntKind.wrap_i64]; omega
  go_wp2
  go_loopw [31] (fun i W => ∃ j : Nat, j ≤ v ∧ i = .int .i64 (j : Int) ∧ W = W22) (fun i _ => v - (intOf i).toNat)
  case atStart => exact ⟨0, Nat.zero_le _, rfl, rfl⟩
  case round =>
    obtain ⟨j, hj, rfl, hWW⟩ := hrel
    have hWW' := hWW.symm
    clear hWW
    subst hWW'
    by_cases hlt : j < v
    · have hj1 : (j : Int) < (v : Int) := by omega
      have hj0 : (0 : Int) ≤ (j : Int) := by omega
      obtain ⟨xb, xo, ec, hxb, hc, _⟩ := RW.out j hlt
      subst ec
      go_wp2
      go_roundw
      case rel => exact ⟨j + 1, hlt, by go_num, by first | rfl | trivial⟩
      case measure => simp [intOf]; omega
    · obtain rfl : j = v := by omega
      clear hlt hj hwk
      go_wp2
      go_loopw [32] (fun i W => ∃ j' : Nat, j' ≤ n ∧ i = .int .i64 (j' : Int) ∧ Hid (Chg nob W22 W)) (fun i _ => n - (intOf i).toNat)
      case atStart => exact ⟨0, Nat.zero_le _, rfl, hik (Chg.refl _ _)⟩
      case round =>
        obtain ⟨i, hi, rfl, HC⟩ := hrel
        rename World => wi
        by_cases hlt : i < n
        · have hi1 : (i : Int) < (n : Int) := by omega
          have hi0 : (0 : Int) ≤ (i : Int) := by omega
          obtain ⟨xb, xo, Ai, Ci, ec, hxb, hc, hPi⟩ := (RowsE.keep TB.out HC.out) i hlt
          subst ec
          have PI := hik hPi
          clear hPi
          go_wp2_with fail
          refine (QT.out i Ai cP Ci pP _ PI (hik (PairE.keep PP.out HC.out))).mono ?_
          rintro e U1 ⟨rfl, k1⟩
          obtain ⟨qb, hqb⟩ : ∃ q, q = U1.heap.size := ⟨_, rfl⟩
          have EB : Hid (ElB (U1.alloc (.cells #[.int .i64 (Vv i).v.1, .int .i64 (Vv i).v.2] 31)) qb (Vv i)) := hik (by rw [hqb]; exact ElB.new U1 (Vv i))
          have HC2 := hik ((HC.out.trans k1).alloc (.cells #[.int .i64 (Vv i).v.1, .int .i64 (Vv i).v.2] 31))
          clear k1 hc
          go_upto_region 27 with fail
          rw [← hqb]
          generalize hE : U1.alloc (.cells #[.int .i64 (Vv i).v.1, .int .i64 (Vv i).v.2] 31) = U2 at EB HC2 ⊢
          clear hE hqb
          obtain ⟨vb, vo, ev, hvb, _, _⟩ := PairE.at_ (PairE.keep PV.out HC2.out) hlt
          subst ev
          have y0 := PairE.c0 (PairE.keep PV.out HC2.out) hlt
          have y1 := PairE.c1 (PairE.keep PV.out HC2.out) hlt
          have z0 := EB.out.c0
          have z1 := EB.out.c1
          have KW := hik ((Chg.refl nob U2).drew1)
          have SA := hik (fun (WW : World) (kW : Chg nob U2 WW) => (show (WW.cell? ⟨qb, 0, none⟩ = some (.int .i64 (Vv i).v.1) ∧ WW.cell? ⟨qb, 1, none⟩ = some (.int .i64 (Vv i).v.2) ∧ WW.cell? ⟨vb, vo + i * 2, none⟩ = some (.int .i64 (Vv i).v.1) ∧ WW.cell? ⟨vb, vo + i * 2 + 1, none⟩ = some (.int .i64 (Vv i).v.2)) from ⟨kW.see z0, kW.see z1, kW.see y0, kW.see y1⟩))
          refine wp_region_held_drew (S := fun w' => w'.cell? ⟨qb, 0, none⟩ = some (.int .i64 (Vv i).v.1) ∧ w'.cell? ⟨qb, 1, none⟩ = some (.int .i64 (Vv i).v.2) ∧ w'.cell? ⟨vb, vo + i * 2, none⟩ = some (.int .i64 (Vv i).v.1) ∧ w'.cell? ⟨vb, vo + i * 2 + 1, none⟩ = some (.int .i64 (Vv i).v.2)) (by kernel_rfl) ⟨z0, z1, y0, y1⟩ (fun hHeld => ?_)
          refine wpAnyH_take (i := 0) (v := ?_) rfl (by kernel_rfl) (by kernel_rfl) (by kernel_rfl) (fun _ _ _ h => h) (Or.inl ⟨by rfl, ?_⟩) (by assumption) ?_
          rotate_left 1
          · (intro w' hSw; (try dsimp only at hSw); go_simp; try with_reducible rfl)
          try simp only [Act.put, List.setIfInBounds_toArray, List.set_cons_zero, List.set_cons_succ, List.getElem_toArray, List.getElem_cons_zero, List.getElem_cons_succ]
          refine wpAnyH_take (i := 1) (v := ?_) rfl (by kernel_rfl) (by kernel_rfl) (by kernel_rfl) (fun _ _ _ h => h) (Or.inl ⟨by rfl, ?_⟩) (by assumption) ?_
          rotate_left 1
          · (intro w' hSw; (try dsimp only at hSw); go_simp; try with_reducible rfl)
          try simp only [Act.put, List.setIfInBounds_toArray, List.set_cons_zero, List.set_cons_succ, List.getElem_toArray, List.getElem_cons_zero, List.getElem_cons_succ]
          refine wpAnyH_take (i := 2) (v := ?_) rfl (by kernel_rfl) (by kernel_rfl) (by kernel_rfl) (fun _ _ _ h => h) (Or.inl ⟨by rfl, ?_⟩) (by assumption) ?_
          rotate_left 1
          · (intro w' hSw; (try dsimp only at hSw); go_simp; try with_reducible rfl)
          try simp only [Act.put, List.setIfInBounds_toArray, List.set_cons_zero, List.set_cons_succ, List.getElem_toArray, List.getElem_cons_zero, List.getElem_cons_succ]
          refine wpAnyH_take (i := 3) (v := ?_) rfl (by kernel_rfl) (by kernel_rfl) (by kernel_rfl) (fun _ _ _ h => h) (Or.inl ⟨by rfl, ?_⟩) (by assumption) ?_
          rotate_left 1
          · (intro w' hSw; (try dsimp only at hSw); go_simp; try with_reducible rfl)
          try simp only [Act.put, List.setIfInBounds_toArray, List.set_cons_zero, List.set_cons_succ, List.getElem_toArray, List.getElem_cons_zero, List.getElem_cons_succ]
          refine wpAnyH_take (i := 4) (v := ?_) rfl (by kernel_rfl) (by kernel_rfl) (by kernel_rfl) (fun _ _ _ h => h) (Or.inl ⟨by rfl, ?_⟩) (by assumption) ?_
          rotate_left 1
          · (intro w' hSw; (try dsimp only at hSw); go_simp; try with_reducible rfl)
          try simp only [Act.put, List.setIfInBounds_toArray, List.set_cons_zero, List.set_cons_succ, List.getElem_toArray, List.getElem_cons_zero, List.getElem_cons_succ]
          refine wpAnyH_take (i := 5) (v := ?_) rfl (by kernel_rfl) (by kernel_rfl) (by kernel_rfl) (fun _ _ _ h => h) (Or.inl ⟨by rfl, ?_⟩) (by assumption) ?_
          rotate_left 1
          · (intro w' hSw; (try dsimp only at hSw); go_simp; try with_reducible rfl)
          try simp only [Act.put, List.setIfInBounds_toArray, List.set_cons_zero, List.set_cons_succ, List.getElem_toArray, List.getElem_cons_zero, List.getElem_cons_succ]
          refine wpAnyH_take (i := 6) (v := ?_) rfl (by kernel_rfl) (by kernel_rfl) (by kernel_rfl) (fun _ _ _ h => h) (Or.inl ⟨by rfl, ?_⟩) (by assumption) ?_
          rotate_left 1
          · (intro w' hSw; (try dsimp only at hSw); go_simp; try with_reducible rfl)
          try simp only [Act.put, List.setIfInBounds_toArray, List.set_cons_zero, List.set_cons_succ, List.getElem_toArray, List.getElem_cons_zero, List.getElem_cons_succ]
          refine wpAnyH_take (i := 7) (v := ?_) rfl (by kernel_rfl) (by kernel_rfl) (by kernel_rfl) (fun _ _ _ h => h) (Or.inl ⟨by rfl, ?_⟩) (by assumption) ?_
          rotate_left 1
          · (intro w' hSw; (try dsimp only at hSw); go_simp; try with_reducible rfl)
          try simp only [Act.put, List.setIfInBounds_toArray, List.set_cons_zero, List.set_cons_succ, List.getElem_toArray, List.getElem_cons_zero, List.getElem_cons_succ]
          refine wpAnyH_take (i := 8) (v := .bool false) rfl (by kernel_rfl) (by kernel_rfl) (by kernel_rfl) (fun _ _ _ h => h) (Or.inl ⟨by rfl, ?_⟩) (by assumption) ?_
          · (intro w' hSw; (try dsimp only at hSw); go_simp; try rfl)
          try simp only [Act.put, List.setIfInBounds_toArray, List.set_cons_zero, List.set_cons_succ, List.getElem_toArray, List.getElem_cons_zero, List.getElem_cons_succ]
          refine wpAnyH_take (i := 9) (v := ?_) rfl (by kernel_rfl) (by kernel_rfl) (by kernel_rfl) (fun _ _ _ h => h) (Or.inl ⟨by rfl, ?_⟩) (by assumption) ?_
          rotate_left 1
          · (intro w' hSw; (try dsimp only at hSw); go_simp; try with_reducible rfl)
          try simp only [Act.put, List.setIfInBounds_toArray, List.set_cons_zero, List.set_cons_succ, List.getElem_toArray, List.getElem_cons_zero, List.getElem_cons_succ]
          refine wpAnyH_done (by kernel_rfl) ?_ _
          have HC3 := hik (HC2.out.trans KW.out)
          clear SA hHeld KW y0 y1 z0 z1 EB
          go_wp2
          go_roundw
          case rel => exact ⟨i + 1, hlt, by go_num, HC3⟩
          case measure => simp [intOf]; omega
        · obtain rfl : i = n := by omega
          by_cases hv0 : j = 0
          · have hv0' : ((j : Int) == 0) = true := by rw [hv0]; rfl
            have HV0 := hik hv0
            clear hv0
            go_wp2
            go_ret
            exact ⟨rfl, (G.out.trans HC.out).belowAll⟩
          · have hv0' : ((j : Int) == 0) = false := by
              have : ¬ (j : Int) = 0 := by omega
              simpa using this
            have hj1 : 1 ≤ j := by omega
            clear hv0
            go_wp2_with fail
            refine (QR.out hj1 cT pT _ (hik (RowsE.keep TB.out HC.out))).mono ?_
            rintro e U1 ⟨cF, pF, he, _, _, oF, k1⟩
            subst he
            rw [HG0.out hj1] at oF
            obtain ⟨xb, xo, ec, hxb, hc, hP0⟩ := (RowsV.keep RW.out (HC.out.trans k1)) 0 (by omega)
            subst ec
            have hc0 : U1.cell? ⟨xb, xo, none⟩ = _ := hc
            have PF := hik (OwnE.pairs oF)
            have P0 := hik hP0
            have HC2 := hik (HC.out.trans k1)
            have hj2 : (0 : Int) < (j : Int) := by omega
            clear hP0 oF k1 hc
            go_wp2_with fail
            refine (sameExts_any cF _ (k + 2) (k + 2) pF _ _ _ _ _ _ PF P0 rfl (fun _ _ => ⟨rfl, rfl⟩) (by omega)).mono ?_
            rintro e U2 ⟨rfl, k2⟩
            go_wp2
            go_ret
            exact ⟨rfl, (G.out.trans (HC2.out.trans k2)).belowAll⟩

end Go.Proofs.YtgiefpipflcbgadGreatDoor
