/- For every circuit and every two slices of ints: WitnessOf answers as its model does, writes into no argument, and its answers own their memory, each its own; the table of shapes is laid by the program's text. -/
import Derived.Test.YtgimmmmiodlepabDoorCards
import Derived.Test.YtgimmmmiodlepabDoorTie
import Derived.WalkKit
import Derived.ProofKit
import Derived.OpenShut
import Derived.ChangeVars
import Derived.LaidMore
import Derived.Deep.DeepHandedRow
import Derived.ShutString
import Derived.ChangeOld
import Derived.Below
import Derived.Lib.SmallJoins
import Derived.Deep.SlicePairs
import Derived.Deep.RegionHeld3
import Derived.Test.YtgimmmmiodlepabDoorWitX
import Derived.Test.YtgimmmmiodlepabDoorWitS
import Derived.Test.YtgimmmmiodlepabDoorWitL
import Derived.Test.YtgimmmmiodlepabDoorLawGt
import Derived.Test.YtgimmmmiodlepabDoorOpnC
import Derived.Test.YtgimmmmiodlepabDoorLawEk
import Derived.Deep.Strs
namespace Go.Proofs.YtgimmmmiodlepabDoor.fnExactWitnessOf
open Go.ChangeShapes Go.WideShapes Go.ChangeAt Go.RowKit
open Go.Joins Go.Deep
set_option linter.unusedVariables false
set_option maxRecDepth 100000
set_option linter.unusedSimpArgs false

theorem own : ownKnob Tryd.prog.godebug = none := by kernel_rfl
theorem gTab : Tryd.prog.globalNamed (Rows.fnExactWitnessOfSpec.vars.headD default) = some 0 := by kernel_rfl
theorem tTab : (Tryd.prog.globals[0]?).map (·.type) = some 124 := by kernel_rfl
theorem laidOut : laidOutB Tryd.prog = true := by kernel_rfl
/-- The table as data. -/
def shD (i : Nat) : DataW Unit := .agg [.lit (.string (shWs.getD i [])), .lit (.int .i64 (shp i)), .lit (.bool (shn i))]
theorem laid_eq : (Rows.laid_loop_example_g00348_impl_shapes : DataW Unit) = .agg ((List.range 8).map shD) := by rfl
/-- What the row's list gives: the table holds its shapes. -/
theorem table {W : World} (h : laidMetH Tryd.prog Rows.fnExactWitnessOfRow.laid W) : Shp W := by
  obtain ⟨ps, ⟨g, t, cs, fuel, p, q, hg, ht, hvar, hd, _, _⟩, _⟩ := h
  obtain rfl := Option.some.inj (gTab.symm.trans hg)
  obtain rfl := Option.some.inj (tTab.symm.trans ht)
  rw [laid_eq] at hd
  obtain ⟨xs, m, rfl, hx, hcl, hn, hel⟩ := DataW.trod_array Tryd.underlying124 hd
  simp only [Prod.mk.injEq, DataW.agg.injEq] at hx
  have each : ∀ i, i < 8 → (cs.toList.drop (i * 3)).take 3 = [.string (shw i), .int .i64 (shp i), .bool (shn i)] := by
    intro i hi
    have h0 := hel i hi
    rw [cellsSp, List.getElem?_eq_getElem (by omega)] at h0
    have h2 : (xs.map (·.1))[i]? = some (shD i) := by rw [← hx.1, List.getElem?_map, List.getElem?_range hi]; rfl
    rw [List.getElem?_map, List.getElem?_eq_getElem (by omega)] at h2
    simp only [Option.map_some, Option.some.injEq] at h2
    have h3 : xs[i]'(by omega) = (shD i, (xs[i]'(by omega)).2) := by rw [← h2]
    rw [h3] at h0
    exact shape_cells h0
  have cell : ∀ i j v, i < 8 → j < 3 → [Value.string (shw i), .int .i64 (shp i), .bool (shn i)][j]? = some v → W.cell? ⟨0, i * 3 + j, none⟩ = some v := by
    intro i j v hi hj hv
    rw [World.var?_cell hg hvar (i * 3 + j), ← Array.getElem?_toList]
    have := each i hi
    rw [← hv, ← this, List.getElem?_take, if_pos hj, List.getElem?_drop]
  exact ⟨fun i hi => cell i 0 _ hi (by omega) rfl, fun i hi => cell i 1 _ hi (by omega) rfl, fun i hi => cell i 2 _ hi (by omega) rfl⟩

set_option maxRecDepth 100000 in
set_option maxHeartbeats 4000000 in
theorem walk (c0 : Option Addr) (len0 cap0 : Nat) (G0 : Nat → Gt) (c1 : Option Addr) (len1 cap1 : Nat) (f1 : Nat → Int) (c2 : Option Addr) (len2 cap2 : Nat) (f2 : Nat → Int) (w : World) (w0 : GatV w c0 len0 G0) (bg0 : len0 ≤ 9223372036854775807) (w1 : RowV w c1 len1 (iv f1)) (bg1 : len1 ≤ 9223372036854775807) (w2 : RowV w c2 len2 (iv f2)) (bg2 : len2 ≤ 9223372036854775807) (ht : Hid (Shp w)) :
    Calls Tryd.prog 4 #[.agg #[.slice c0 len0 cap0], .slice c1 len1 cap1, .slice c2 len2 cap2] w fun e w' => e = .returned (.bool true) ∧ Below w.heap.size w w' := by
  have HV := hik w0
  have HY := hik w1
  have HZ := hik w2
  clear w0 w1 w2
  have G := hik ((Chg.refl nob w).alloc (.cells #[.slice c0 len0 cap0] 24))
  by_cases hmz : 1048576 < len1
  · have hmz' : (1048576 : Int) < len1 := by omega
    go_enter Tryd.func4, Tryd.ntmps4
    go_wp2
    go_ret
    exact ⟨rfl, G.out.belowAll⟩
  have hmz' : ¬ (1048576 : Int) < len1 := by omega
  by_cases hmy : 1048576 < len2
  · have hmy' : (1048576 : Int) < len2 := by omega
    go_enter Tryd.func4, Tryd.ntmps4
    go_wp2
    go_ret
    exact ⟨rfl, G.out.belowAll⟩
  have hmy' : ¬ (1048576 : Int) < len2 := by omega
  by_cases hm : 1048576 < len0
  · go_enter Tryd.func4, Tryd.ntmps4
    go_wp2_with (go_at_call 7; refine (szCircuit_no _ _ _ _ _ (by omega) (by omega) (by omega)).mono ?_; rintro e W1 ⟨rfl, k1⟩; have K1 := hik (G.out.trans k1); clear k1)
    go_ret
    exact ⟨rfl, K1.out.belowAll⟩
  have hp : ¬ (1048576 : Int) - (len0 : Int) < 0 := by omega
  have HS := hik (fun (c e : Option Addr) (pb : Nat) (w' : World) (h : Hid (GatV w' c len0 G0)) (h' : Hid (RowV w' (some ⟨pb, 0, none⟩) len1 (iv f1))) (h2 : Hid (RowV w' e len2 (iv f2))) => sWitX_any c len0 len0 G0 pb 0 len1 len1 f1 e len2 len2 f2 w' h h' h2 (by omega) (by omega) (by omega))
  have HI := hik (fun (c d e : Option Addr) (w' : World) (h : Hid (GatV w' c len0 G0)) (ht : Hid (Shp w')) (h' : Hid (RowV w' d len1 (iv f1))) (h2 : Hid (RowV w' e len2 (iv f2))) => witX_any c len0 len0 G0 d len1 len1 f1 e len2 len2 f2 w' h ht h' h2 (by omega) (by omega) (by omega) (Nat.le_refl _) (by omega) (Nat.le_refl _) (by omega))
  have hMb : (if (rcc len0 G0 len1 f1 len2 f2) = 0 then len1 else 0) ≤ 1048576 := by split <;> omega
  have hNb : (if (rcc len0 G0 len1 f1 len2 f2) = 0 then len0 - len1 else 0) ≤ 1048576 := by split <;> omega
  unfold WtAns at HS HI
  generalize (if (rcc len0 G0 len1 f1 len2 f2) = 0 then len1 else 0) = M at HS HI hMb
  generalize (if (rcc len0 G0 len1 f1 len2 f2) = 0 then len0 - len1 else 0) = N at HS HI hNb
  generalize prF G0 (rvl G0 f1 f2 len0) len0 = Fn at HS HI
  generalize (rcc len0 G0 len1 f1 len2 f2) = Cd at HS HI
  have BX := hik (show World.cell? (w.alloc (.cells #[.slice c0 len0 cap0] 24)) ⟨w.heap.size, 0, none⟩ = some (.slice c0 len0 cap0) by go_simp)
  have sB := hik (show w.heap.size < (w.alloc (.cells #[.slice c0 len0 cap0] 24)).heap.size by simp)
  go_enter Tryd.func4, Tryd.ntmps4
  go_wp2_with fail
  refine (szCircuit_ok _ _ _ _ _ (by omega) (by omega)).mono ?_
  rintro e W1 ⟨rfl, kk⟩
  have s1 := hik kk.size
  replace G := hik (G.out.trans kk)
  replace BX := hik (kk.look BX.out)
  clear kk
  have x0 := BX.out
  go_wp2_with fail
  refine (toCircuit_any c0 len0 cap0 G0 _ (hik (HV.out.keep G.out)) (by omega)).mono ?_
  rintro e W2 ⟨b1, rfl, lb, rr, kk⟩
  have s2 := hik kk.size
  replace G := hik (G.out.trans kk)
  replace BX := hik (kk.look BX.out)
  have CA := hik rr
  have lCA := hik lb
  have uCA := hik rr.lt
  clear rr kk lb x0
  go_wp2_with fail
  refine (toIntS_any c1 len1 cap1 f1 _ (hik (HY.out.keep G.out)) (by omega)).mono ?_
  rintro e W3 ⟨rfl, rr, kk⟩
  have s3 := hik kk.size
  replace G := hik (G.out.trans kk)
  replace BX := hik (kk.look BX.out)
  replace CA := hik (rowIs_keep CA.out kk)
  have IA := hik rr
  clear rr kk
  have LIA := hik (show W2.heap.size < W3.heap.size from IA.out.lt)
  go_wp2_with fail
  refine (toIntS_any c2 len2 cap2 f2 _ (hik (HZ.out.keep G.out)) (by omega)).mono ?_
  rintro e W4 ⟨rfl, rr, kk⟩
  have s4 := hik kk.size
  replace G := hik (G.out.trans kk)
  replace BX := hik (kk.look BX.out)
  replace CA := hik (rowIs_keep CA.out kk)
  replace IA := hik (rowIs_keep IA.out kk)
  have JA := hik rr
  clear rr kk
  have LJA := hik (show W3.heap.size < W4.heap.size from JA.out.lt)
  go_wp2_with fail
  refine (HS.out _ _ _ _ (hik (GatV.of_row CA.out (Nat.le_refl _) (fun _ _ => rfl))) (hik (RowV.of_row IA.out (Nat.le_refl _))) (hik (RowV.of_row JA.out (Nat.le_refl _)))).mono ?_
  rintro e W5 ⟨cW, pW, dW, qW, rfl, oo, oq, ap, kk⟩
  have s5 := hik kk.size
  replace G := hik (G.out.trans kk)
  replace BX := hik (kk.look BX.out)
  replace CA := hik (rowIs_keep CA.out kk)
  replace IA := hik (rowIs_keep IA.out kk)
  replace JA := hik (rowIs_keep JA.out kk)
  have OW := hik oo
  have UOW := hik oo.upper
  have QW := hik oq
  have UQW := hik oq.upper
  have APW := hik ap
  clear oo oq ap kk
  clear CA IA JA
  have x0 := BX.out
  go_wp2_with fail
  refine (toCircuit_any c0 len0 cap0 G0 _ (hik (HV.out.keep G.out)) (by omega)).mono ?_
  rintro e W6 ⟨b2, rfl, lb, rr, kk⟩
  have s6 := hik kk.size
  replace G := hik (G.out.trans kk)
  replace BX := hik (kk.look BX.out)
  replace OW := hik (OW.out.keep kk)
  replace QW := hik (QW.out.keep kk)
  have CX := hik rr
  have lCX := hik lb
  have uCX := hik rr.lt
  clear rr kk lb x0
  go_wp2_with fail
  have KX := hik ((Chg.refl nob W6).alloc (.cells #[.slice (some ⟨b2, 0, none⟩) len0 len0] 33))
  have XX := hik (show World.cell? (W6.alloc (.cells #[.slice (some ⟨b2, 0, none⟩) len0 len0] 33)) ⟨W6.heap.size, 0, none⟩ = some (.slice (some ⟨b2, 0, none⟩) len0 len0) by go_simp)
  have LX := hik (show W6.heap.size < (W6.alloc (.cells #[.slice (some ⟨b2, 0, none⟩) len0 len0] 33)).heap.size by simp)
  replace G := hik (G.out.trans KX.out)
  replace BX := hik (KX.out.look BX.out)
  replace OW := hik (OW.out.keep KX.out)
  replace QW := hik (QW.out.keep KX.out)
  replace CX := hik (rowIs_keep CX.out KX.out)
  generalize hgx : W6.heap.size = gx at XX LX ⊢
  have HGX := hik hgx
  clear hgx
  generalize W6.alloc (.cells #[.slice (some ⟨b2, 0, none⟩) len0 len0] 33) = V5 at G LX BX OW QW CX XX ⊢
  clear KX
  refine (toIntS_any c1 len1 cap1 f1 _ (hik (HY.out.keep G.out)) (by omega)).mono ?_
  rintro e W7 ⟨rfl, rr, kk⟩
  have s7 := hik kk.size
  replace G := hik (G.out.trans kk)
  replace BX := hik (kk.look BX.out)
  replace OW := hik (OW.out.keep kk)
  replace QW := hik (QW.out.keep kk)
  replace CX := hik (rowIs_keep CX.out kk)
  replace XX := hik (kk.look XX.out)
  have IX := hik rr
  clear rr kk
  have LIX := hik (show V5.heap.size < W7.heap.size from IX.out.lt)
  go_wp2_with fail
  refine (toIntS_any c2 len2 cap2 f2 _ (hik (HZ.out.keep G.out)) (by omega)).mono ?_
  rintro e W8 ⟨rfl, rr, kk⟩
  have s8 := hik kk.size
  replace G := hik (G.out.trans kk)
  replace BX := hik (kk.look BX.out)
  replace OW := hik (OW.out.keep kk)
  replace QW := hik (QW.out.keep kk)
  replace CX := hik (rowIs_keep CX.out kk)
  replace XX := hik (kk.look XX.out)
  replace IX := hik (rowIs_keep IX.out kk)
  have JX := hik rr
  clear rr kk
  have LJX := hik (show W7.heap.size < W8.heap.size from JX.out.lt)
  have z0 := XX.out
  go_wp2_with fail
  refine (HI.out _ _ _ _ (hik (GatV.of_row CX.out (Nat.le_refl _) (fun _ _ => rfl))) (hik (ht.out.keep G.out)) (hik (RowV.of_row IX.out (Nat.le_refl _))) (hik (RowV.of_row JX.out (Nat.le_refl _)))).mono ?_
  rintro e W9 ⟨cG, pG, dG, qG, rfl, oo, oq, ap, kk⟩
  have s9 := hik kk.size
  replace G := hik (G.out.trans kk)
  replace BX := hik (kk.look BX.out)
  replace OW := hik (OW.out.keep kk)
  replace QW := hik (QW.out.keep kk)
  replace CX := hik (rowIs_keep CX.out kk)
  replace XX := hik (kk.look XX.out)
  replace IX := hik (rowIs_keep IX.out kk)
  replace JX := hik (rowIs_keep JX.out kk)
  have OG := hik oo
  have UOG := hik oo.upper
  have QG := hik oq
  have UQG := hik oq.upper
  have APG := hik ap
  clear oo oq ap kk
  clear z0
  go_wp2_with fail
  refine (eqIntS_any _ _ M M _ _ f1 f1 _ (hik OG.out.row) (hik OW.out.row) rfl (fun _ _ => rfl) (by omega)).mono ?_
  rintro e W10 ⟨rfl, kk⟩
  have s10 := hik kk.size
  replace G := hik (G.out.trans kk)
  replace BX := hik (kk.look BX.out)
  replace OW := hik (OW.out.keep kk)
  replace QW := hik (QW.out.keep kk)
  replace CX := hik (rowIs_keep CX.out kk)
  replace XX := hik (kk.look XX.out)
  replace IX := hik (rowIs_keep IX.out kk)
  replace JX := hik (rowIs_keep JX.out kk)
  replace OG := hik (OG.out.keep kk)
  replace QG := hik (QG.out.keep kk)
  clear kk
  go_wp2_with fail
  refine (eqIntS_any _ _ N N _ _ Fn Fn _ (hik QG.out.row) (hik QW.out.row) rfl (fun _ _ => rfl) (by omega)).mono ?_
  rintro e W11 ⟨rfl, kk⟩
  have s11 := hik kk.size
  replace G := hik (G.out.trans kk)
  replace BX := hik (kk.look BX.out)
  replace OW := hik (OW.out.keep kk)
  replace QW := hik (QW.out.keep kk)
  replace CX := hik (rowIs_keep CX.out kk)
  replace XX := hik (kk.look XX.out)
  replace IX := hik (rowIs_keep IX.out kk)
  replace JX := hik (rowIs_keep JX.out kk)
  replace OG := hik (OG.out.keep kk)
  replace QG := hik (QG.out.keep kk)
  clear kk
  generalize hgz : V5.heap.size = gz at IX ⊢
  have HGZ := hik hgz
  clear hgz
  generalize hgy : W7.heap.size = gy at JX ⊢
  have HGY := hik hgy
  clear hgy
  have x0 := BX.out
  have z0 := XX.out
  go_wp2_with fail
  go_region_held3 (fun w' => w'.cell? ⟨w.heap.size, 0, none⟩ = some (.slice c0 len0 cap0) ∧ w'.cell? ⟨gx, 0, none⟩ = some (.slice (some ⟨b2, 0, none⟩) len0 len0)) (first | (exact ⟨x0, z0⟩) | (exact ⟨k6.look x0, k6.look z0⟩) | (exact ⟨k7.look (k6.look x0), k7.look (k6.look z0)⟩)) (first | (go_at_call 9; refine (toCircuit_any c0 len0 cap0 G0 _ (hik (HV.out.keep G.out.drew1)) (by omega)).mono ?_; rintro e W12 ⟨b9, rfl, lb, rr, k6⟩) | (go_at_call 12; refine (eqCircuit_any _ _ len0 _ _ G0 _ (hik ((GatV.of_row CX.out (Nat.le_refl _) (fun _ _ => rfl)).keep (((Chg.refl nob _).drew1).trans k6))) (hik (GatV.of_row rr (Nat.le_refl _) (fun _ _ => rfl))) (by omega)).mono ?_; rintro e W13 ⟨rfl, k7⟩))
  have kk := ((Chg.refl nob _).drew1).trans (k6.trans k7)
  have s13 := hik (show W11.heap.size ≤ W13.heap.size from kk.size)
  replace G := hik (G.out.trans kk)
  replace BX := hik (kk.look BX.out)
  replace OW := hik (OW.out.keep kk)
  replace QW := hik (QW.out.keep kk)
  replace CX := hik (rowIs_keep CX.out kk)
  replace XX := hik (kk.look XX.out)
  replace IX := hik (rowIs_keep IX.out kk)
  replace JX := hik (rowIs_keep JX.out kk)
  replace OG := hik (OG.out.keep kk)
  replace QG := hik (QG.out.keep kk)
  clear kk k6 k7 x0 z0 rr lb
  go_wp2_with fail
  refine (toIntS_any c1 len1 cap1 f1 _ (hik (HY.out.keep G.out)) (by omega)).mono ?_
  rintro e W14 ⟨rfl, rr, kk⟩
  have s14 := hik kk.size
  replace G := hik (G.out.trans kk)
  replace BX := hik (kk.look BX.out)
  replace OW := hik (OW.out.keep kk)
  replace QW := hik (QW.out.keep kk)
  replace CX := hik (rowIs_keep CX.out kk)
  replace XX := hik (kk.look XX.out)
  replace IX := hik (rowIs_keep IX.out kk)
  replace JX := hik (rowIs_keep JX.out kk)
  replace OG := hik (OG.out.keep kk)
  replace QG := hik (QG.out.keep kk)
  have IB := hik rr
  clear rr kk
  have LIB := hik (show W13.heap.size < W14.heap.size from IB.out.lt)
  go_wp2_with fail
  refine (eqIntS_any _ _ len1 len1 _ _ f1 f1 _ (hik (RowV.of_row IX.out (Nat.le_refl _))) (hik (RowV.of_row IB.out (Nat.le_refl _))) rfl (fun _ _ => rfl) (by omega)).mono ?_
  rintro e W15 ⟨rfl, kk⟩
  have s15 := hik kk.size
  replace G := hik (G.out.trans kk)
  replace BX := hik (kk.look BX.out)
  replace OW := hik (OW.out.keep kk)
  replace QW := hik (QW.out.keep kk)
  replace CX := hik (rowIs_keep CX.out kk)
  replace XX := hik (kk.look XX.out)
  replace IX := hik (rowIs_keep IX.out kk)
  replace JX := hik (rowIs_keep JX.out kk)
  replace OG := hik (OG.out.keep kk)
  replace QG := hik (QG.out.keep kk)
  replace IB := hik (rowIs_keep IB.out kk)
  clear kk
  clear IB
  go_wp2_with fail
  refine (toIntS_any c2 len2 cap2 f2 _ (hik (HZ.out.keep G.out)) (by omega)).mono ?_
  rintro e W16 ⟨rfl, rr, kk⟩
  have s16 := hik kk.size
  replace G := hik (G.out.trans kk)
  replace BX := hik (kk.look BX.out)
  replace OW := hik (OW.out.keep kk)
  replace QW := hik (QW.out.keep kk)
  replace CX := hik (rowIs_keep CX.out kk)
  replace XX := hik (kk.look XX.out)
  replace IX := hik (rowIs_keep IX.out kk)
  replace JX := hik (rowIs_keep JX.out kk)
  replace OG := hik (OG.out.keep kk)
  replace QG := hik (QG.out.keep kk)
  have JB := hik rr
  clear rr kk
  have LJB := hik (show W15.heap.size < W16.heap.size from JB.out.lt)
  go_wp2_with fail
  refine (eqIntS_any _ _ len2 len2 _ _ f2 f2 _ (hik (RowV.of_row JX.out (Nat.le_refl _))) (hik (RowV.of_row JB.out (Nat.le_refl _))) rfl (fun _ _ => rfl) (by omega)).mono ?_
  rintro e W17 ⟨rfl, kk⟩
  have s17 := hik kk.size
  replace G := hik (G.out.trans kk)
  replace BX := hik (kk.look BX.out)
  replace OW := hik (OW.out.keep kk)
  replace QW := hik (QW.out.keep kk)
  replace CX := hik (rowIs_keep CX.out kk)
  replace XX := hik (kk.look XX.out)
  replace IX := hik (rowIs_keep IX.out kk)
  replace JX := hik (rowIs_keep JX.out kk)
  replace OG := hik (OG.out.keep kk)
  replace QG := hik (QG.out.keep kk)
  replace JB := hik (rowIs_keep JB.out kk)
  clear kk
  clear JB
  have z0 := XX.out
  go_wp2_with fail
  refine (markCircuit_any b2 len0 len0 G0 1 _ CX (by omega) (by omega) (by omega)).mono ?_
  rintro e W18 ⟨rfl, kk⟩
  have s18 := hik kk.size
  replace G := hik (G.out.near kk (fun b m => by have m : _ = _ := m; have := sB.out; have := s1.out; have := s2.out; have := lCA.out; have := uCA.out; have := s3.out; have := LIA.out; have := s4.out; have := LJA.out; have := s5.out; have := s6.out; have := lCX.out; have := uCX.out; have := LX.out; have := HGX.out; have := s7.out; have := LIX.out; have := s8.out; have := LJX.out; have := s9.out; have := s10.out; have := s11.out; have := HGZ.out; have := HGY.out; have := s13.out; have := s14.out; have := LIB.out; have := s15.out; have := s16.out; have := LJB.out; have := s17.out; have := s18.out; omega))
  replace BX := hik (kk.seeP BX.out (fun m => by have m : _ = _ := m; have := sB.out; have := s1.out; have := s2.out; have := lCA.out; have := uCA.out; have := s3.out; have := LIA.out; have := s4.out; have := LJA.out; have := s5.out; have := s6.out; have := lCX.out; have := uCX.out; have := LX.out; have := HGX.out; have := s7.out; have := LIX.out; have := s8.out; have := LJX.out; have := s9.out; have := s10.out; have := s11.out; have := HGZ.out; have := HGY.out; have := s13.out; have := s14.out; have := LIB.out; have := s15.out; have := s16.out; have := LJB.out; have := s17.out; have := s18.out; omega))
  replace OW := hik (OW.out.far kk (fun b o hb ec => ((UOW.out b o ec).imp id (fun q m => by have m : _ = _ := m; have := sB.out; have := s1.out; have := s2.out; have := lCA.out; have := uCA.out; have := s3.out; have := LIA.out; have := s4.out; have := LJA.out; have := s5.out; have := s6.out; have := lCX.out; have := uCX.out; have := LX.out; have := HGX.out; have := s7.out; have := LIX.out; have := s8.out; have := LJX.out; have := s9.out; have := s10.out; have := s11.out; have := HGZ.out; have := HGY.out; have := s13.out; have := s14.out; have := LIB.out; have := s15.out; have := s16.out; have := LJB.out; have := s17.out; have := s18.out; omega))))
  replace QW := hik (QW.out.far kk (fun b o hb ec => ((UQW.out b o ec).imp id (fun q m => by have m : _ = _ := m; have := sB.out; have := s1.out; have := s2.out; have := lCA.out; have := uCA.out; have := s3.out; have := LIA.out; have := s4.out; have := LJA.out; have := s5.out; have := s6.out; have := lCX.out; have := uCX.out; have := LX.out; have := HGX.out; have := s7.out; have := LIX.out; have := s8.out; have := LJX.out; have := s9.out; have := s10.out; have := s11.out; have := HGZ.out; have := HGY.out; have := s13.out; have := s14.out; have := LIB.out; have := s15.out; have := s16.out; have := LJB.out; have := s17.out; have := s18.out; omega))))
  replace IX := hik (rowIs_chg IX.out kk (fun m => by have m : _ = _ := m; have := sB.out; have := s1.out; have := s2.out; have := lCA.out; have := uCA.out; have := s3.out; have := LIA.out; have := s4.out; have := LJA.out; have := s5.out; have := s6.out; have := lCX.out; have := uCX.out; have := LX.out; have := HGX.out; have := s7.out; have := LIX.out; have := s8.out; have := LJX.out; have := s9.out; have := s10.out; have := s11.out; have := HGZ.out; have := HGY.out; have := s13.out; have := s14.out; have := LIB.out; have := s15.out; have := s16.out; have := LJB.out; have := s17.out; have := s18.out; omega))
  replace JX := hik (rowIs_chg JX.out kk (fun m => by have m : _ = _ := m; have := sB.out; have := s1.out; have := s2.out; have := lCA.out; have := uCA.out; have := s3.out; have := LIA.out; have := s4.out; have := LJA.out; have := s5.out; have := s6.out; have := lCX.out; have := uCX.out; have := LX.out; have := HGX.out; have := s7.out; have := LIX.out; have := s8.out; have := LJX.out; have := s9.out; have := s10.out; have := s11.out; have := HGZ.out; have := HGY.out; have := s13.out; have := s14.out; have := LIB.out; have := s15.out; have := s16.out; have := LJB.out; have := s17.out; have := s18.out; omega))
  replace OG := hik (OG.out.far kk (fun b o hb ec => ((UOG.out b o ec).imp id (fun q m => by have m : _ = _ := m; have := sB.out; have := s1.out; have := s2.out; have := lCA.out; have := uCA.out; have := s3.out; have := LIA.out; have := s4.out; have := LJA.out; have := s5.out; have := s6.out; have := lCX.out; have := uCX.out; have := LX.out; have := HGX.out; have := s7.out; have := LIX.out; have := s8.out; have := LJX.out; have := s9.out; have := s10.out; have := s11.out; have := HGZ.out; have := HGY.out; have := s13.out; have := s14.out; have := LIB.out; have := s15.out; have := s16.out; have := LJB.out; have := s17.out; have := s18.out; omega))))
  replace QG := hik (QG.out.far kk (fun b o hb ec => ((UQG.out b o ec).imp id (fun q m => by have m : _ = _ := m; have := sB.out; have := s1.out; have := s2.out; have := lCA.out; have := uCA.out; have := s3.out; have := LIA.out; have := s4.out; have := LJA.out; have := s5.out; have := s6.out; have := lCX.out; have := uCX.out; have := LX.out; have := HGX.out; have := s7.out; have := LIX.out; have := s8.out; have := LJX.out; have := s9.out; have := s10.out; have := s11.out; have := HGZ.out; have := HGY.out; have := s13.out; have := s14.out; have := LIB.out; have := s15.out; have := s16.out; have := LJB.out; have := s17.out; have := s18.out; omega))))
  clear kk CX z0 XX
  go_wp2_with fail
  refine (markIntS_q gz len1 len1 f1 (1 + 4 * len0) _ IX (by omega) (by omega) (by omega)).mono ?_
  rintro e W19 ⟨rfl, kk⟩
  have s19 := hik kk.size
  replace G := hik (G.out.near kk (fun b m => by have m : _ = _ := m; have := sB.out; have := s1.out; have := s2.out; have := lCA.out; have := uCA.out; have := s3.out; have := LIA.out; have := s4.out; have := LJA.out; have := s5.out; have := s6.out; have := lCX.out; have := uCX.out; have := LX.out; have := HGX.out; have := s7.out; have := LIX.out; have := s8.out; have := LJX.out; have := s9.out; have := s10.out; have := s11.out; have := HGZ.out; have := HGY.out; have := s13.out; have := s14.out; have := LIB.out; have := s15.out; have := s16.out; have := LJB.out; have := s17.out; have := s18.out; have := s19.out; omega))
  replace BX := hik (kk.seeP BX.out (fun m => by have m : _ = _ := m; have := sB.out; have := s1.out; have := s2.out; have := lCA.out; have := uCA.out; have := s3.out; have := LIA.out; have := s4.out; have := LJA.out; have := s5.out; have := s6.out; have := lCX.out; have := uCX.out; have := LX.out; have := HGX.out; have := s7.out; have := LIX.out; have := s8.out; have := LJX.out; have := s9.out; have := s10.out; have := s11.out; have := HGZ.out; have := HGY.out; have := s13.out; have := s14.out; have := LIB.out; have := s15.out; have := s16.out; have := LJB.out; have := s17.out; have := s18.out; have := s19.out; omega))
  replace OW := hik (OW.out.far kk (fun b o hb ec => ((UOW.out b o ec).imp id (fun q m => by have m : _ = _ := m; have := sB.out; have := s1.out; have := s2.out; have := lCA.out; have := uCA.out; have := s3.out; have := LIA.out; have := s4.out; have := LJA.out; have := s5.out; have := s6.out; have := lCX.out; have := uCX.out; have := LX.out; have := HGX.out; have := s7.out; have := LIX.out; have := s8.out; have := LJX.out; have := s9.out; have := s10.out; have := s11.out; have := HGZ.out; have := HGY.out; have := s13.out; have := s14.out; have := LIB.out; have := s15.out; have := s16.out; have := LJB.out; have := s17.out; have := s18.out; have := s19.out; omega))))
  replace QW := hik (QW.out.far kk (fun b o hb ec => ((UQW.out b o ec).imp id (fun q m => by have m : _ = _ := m; have := sB.out; have := s1.out; have := s2.out; have := lCA.out; have := uCA.out; have := s3.out; have := LIA.out; have := s4.out; have := LJA.out; have := s5.out; have := s6.out; have := lCX.out; have := uCX.out; have := LX.out; have := HGX.out; have := s7.out; have := LIX.out; have := s8.out; have := LJX.out; have := s9.out; have := s10.out; have := s11.out; have := HGZ.out; have := HGY.out; have := s13.out; have := s14.out; have := LIB.out; have := s15.out; have := s16.out; have := LJB.out; have := s17.out; have := s18.out; have := s19.out; omega))))
  replace JX := hik (rowIs_chg JX.out kk (fun m => by have m : _ = _ := m; have := sB.out; have := s1.out; have := s2.out; have := lCA.out; have := uCA.out; have := s3.out; have := LIA.out; have := s4.out; have := LJA.out; have := s5.out; have := s6.out; have := lCX.out; have := uCX.out; have := LX.out; have := HGX.out; have := s7.out; have := LIX.out; have := s8.out; have := LJX.out; have := s9.out; have := s10.out; have := s11.out; have := HGZ.out; have := HGY.out; have := s13.out; have := s14.out; have := LIB.out; have := s15.out; have := s16.out; have := LJB.out; have := s17.out; have := s18.out; have := s19.out; omega))
  replace OG := hik (OG.out.far kk (fun b o hb ec => ((UOG.out b o ec).imp id (fun q m => by have m : _ = _ := m; have := sB.out; have := s1.out; have := s2.out; have := lCA.out; have := uCA.out; have := s3.out; have := LIA.out; have := s4.out; have := LJA.out; have := s5.out; have := s6.out; have := lCX.out; have := uCX.out; have := LX.out; have := HGX.out; have := s7.out; have := LIX.out; have := s8.out; have := LJX.out; have := s9.out; have := s10.out; have := s11.out; have := HGZ.out; have := HGY.out; have := s13.out; have := s14.out; have := LIB.out; have := s15.out; have := s16.out; have := LJB.out; have := s17.out; have := s18.out; have := s19.out; omega))))
  replace QG := hik (QG.out.far kk (fun b o hb ec => ((UQG.out b o ec).imp id (fun q m => by have m : _ = _ := m; have := sB.out; have := s1.out; have := s2.out; have := lCA.out; have := uCA.out; have := s3.out; have := LIA.out; have := s4.out; have := LJA.out; have := s5.out; have := s6.out; have := lCX.out; have := uCX.out; have := LX.out; have := HGX.out; have := s7.out; have := LIX.out; have := s8.out; have := LJX.out; have := s9.out; have := s10.out; have := s11.out; have := HGZ.out; have := HGY.out; have := s13.out; have := s14.out; have := LIB.out; have := s15.out; have := s16.out; have := LJB.out; have := s17.out; have := s18.out; have := s19.out; omega))))
  clear kk IX
  go_wp2_with fail
  refine (markIntS_q gy len2 len2 f2 (1 + 4 * len0 + len1) _ JX (by omega) (by omega) (by omega)).mono ?_
  rintro e W20 ⟨rfl, kk⟩
  have s20 := hik kk.size
  replace G := hik (G.out.near kk (fun b m => by have m : _ = _ := m; have := sB.out; have := s1.out; have := s2.out; have := lCA.out; have := uCA.out; have := s3.out; have := LIA.out; have := s4.out; have := LJA.out; have := s5.out; have := s6.out; have := lCX.out; have := uCX.out; have := LX.out; have := HGX.out; have := s7.out; have := LIX.out; have := s8.out; have := LJX.out; have := s9.out; have := s10.out; have := s11.out; have := HGZ.out; have := HGY.out; have := s13.out; have := s14.out; have := LIB.out; have := s15.out; have := s16.out; have := LJB.out; have := s17.out; have := s18.out; have := s19.out; have := s20.out; omega))
  replace BX := hik (kk.seeP BX.out (fun m => by have m : _ = _ := m; have := sB.out; have := s1.out; have := s2.out; have := lCA.out; have := uCA.out; have := s3.out; have := LIA.out; have := s4.out; have := LJA.out; have := s5.out; have := s6.out; have := lCX.out; have := uCX.out; have := LX.out; have := HGX.out; have := s7.out; have := LIX.out; have := s8.out; have := LJX.out; have := s9.out; have := s10.out; have := s11.out; have := HGZ.out; have := HGY.out; have := s13.out; have := s14.out; have := LIB.out; have := s15.out; have := s16.out; have := LJB.out; have := s17.out; have := s18.out; have := s19.out; have := s20.out; omega))
  replace OW := hik (OW.out.far kk (fun b o hb ec => ((UOW.out b o ec).imp id (fun q m => by have m : _ = _ := m; have := sB.out; have := s1.out; have := s2.out; have := lCA.out; have := uCA.out; have := s3.out; have := LIA.out; have := s4.out; have := LJA.out; have := s5.out; have := s6.out; have := lCX.out; have := uCX.out; have := LX.out; have := HGX.out; have := s7.out; have := LIX.out; have := s8.out; have := LJX.out; have := s9.out; have := s10.out; have := s11.out; have := HGZ.out; have := HGY.out; have := s13.out; have := s14.out; have := LIB.out; have := s15.out; have := s16.out; have := LJB.out; have := s17.out; have := s18.out; have := s19.out; have := s20.out; omega))))
  replace QW := hik (QW.out.far kk (fun b o hb ec => ((UQW.out b o ec).imp id (fun q m => by have m : _ = _ := m; have := sB.out; have := s1.out; have := s2.out; have := lCA.out; have := uCA.out; have := s3.out; have := LIA.out; have := s4.out; have := LJA.out; have := s5.out; have := s6.out; have := lCX.out; have := uCX.out; have := LX.out; have := HGX.out; have := s7.out; have := LIX.out; have := s8.out; have := LJX.out; have := s9.out; have := s10.out; have := s11.out; have := HGZ.out; have := HGY.out; have := s13.out; have := s14.out; have := LIB.out; have := s15.out; have := s16.out; have := LJB.out; have := s17.out; have := s18.out; have := s19.out; have := s20.out; omega))))
  replace OG := hik (OG.out.far kk (fun b o hb ec => ((UOG.out b o ec).imp id (fun q m => by have m : _ = _ := m; have := sB.out; have := s1.out; have := s2.out; have := lCA.out; have := uCA.out; have := s3.out; have := LIA.out; have := s4.out; have := LJA.out; have := s5.out; have := s6.out; have := lCX.out; have := uCX.out; have := LX.out; have := HGX.out; have := s7.out; have := LIX.out; have := s8.out; have := LJX.out; have := s9.out; have := s10.out; have := s11.out; have := HGZ.out; have := HGY.out; have := s13.out; have := s14.out; have := LIB.out; have := s15.out; have := s16.out; have := LJB.out; have := s17.out; have := s18.out; have := s19.out; have := s20.out; omega))))
  replace QG := hik (QG.out.far kk (fun b o hb ec => ((UQG.out b o ec).imp id (fun q m => by have m : _ = _ := m; have := sB.out; have := s1.out; have := s2.out; have := lCA.out; have := uCA.out; have := s3.out; have := LIA.out; have := s4.out; have := LJA.out; have := s5.out; have := s6.out; have := lCX.out; have := uCX.out; have := LX.out; have := HGX.out; have := s7.out; have := LIX.out; have := s8.out; have := LJX.out; have := s9.out; have := s10.out; have := s11.out; have := HGZ.out; have := HGY.out; have := s13.out; have := s14.out; have := LIB.out; have := s15.out; have := s16.out; have := LJB.out; have := s17.out; have := s18.out; have := s19.out; have := s20.out; omega))))
  clear kk JX
  have hkp : ¬ (1 : Int) + 4 * (len0 : Int) + (len1 : Int) + (len2 : Int) < 0 := by omega
  go_wp2_with fail
  refine (eqIntS_any _ _ M M _ _ f1 f1 _ (hik OG.out.row) (hik OW.out.row) rfl (fun _ _ => rfl) (by omega)).mono ?_
  rintro e W21 ⟨rfl, kk⟩
  have s21 := hik kk.size
  replace G := hik (G.out.trans kk)
  replace BX := hik (kk.look BX.out)
  replace OW := hik (OW.out.keep kk)
  replace QW := hik (QW.out.keep kk)
  replace OG := hik (OG.out.keep kk)
  replace QG := hik (QG.out.keep kk)
  clear kk
  go_wp2_with fail
  refine (eqIntS_any _ _ N N _ _ Fn Fn _ (hik QG.out.row) (hik QW.out.row) rfl (fun _ _ => rfl) (by omega)).mono ?_
  rintro e W22 ⟨rfl, kk⟩
  have s22 := hik kk.size
  replace G := hik (G.out.trans kk)
  replace BX := hik (kk.look BX.out)
  replace OW := hik (OW.out.keep kk)
  replace QW := hik (QW.out.keep kk)
  replace OG := hik (OG.out.keep kk)
  replace QG := hik (QG.out.keep kk)
  clear kk
  have hkp2 : ¬ (1 : Int) + (M : Int) < 0 := by omega
  have hkp3 : ¬ (1 : Int) + (M : Int) + (N : Int) < 0 := by omega
  go_wp2_with fail
  refine (markJ_ownq W8.heap.size cG M pG f1 1 _ OG (by omega) (by omega) (by omega)).mono ?_
  rintro e W23 ⟨rfl, og, kk⟩
  have s23 := hik kk.size
  replace G := hik (G.out.near kk (fun b m => by have m1 := m.1; have := sB.out; have := s1.out; have := s2.out; have := lCA.out; have := uCA.out; have := s3.out; have := LIA.out; have := s4.out; have := LJA.out; have := s5.out; have := s6.out; have := lCX.out; have := uCX.out; have := LX.out; have := HGX.out; have := s7.out; have := LIX.out; have := s8.out; have := LJX.out; have := s9.out; have := s10.out; have := s11.out; have := HGZ.out; have := HGY.out; have := s13.out; have := s14.out; have := LIB.out; have := s15.out; have := s16.out; have := LJB.out; have := s17.out; have := s18.out; have := s19.out; have := s20.out; have := s21.out; have := s22.out; have := s23.out; omega))
  replace BX := hik (kk.seeP BX.out (fun m => by have m1 := m.1; have := sB.out; have := s1.out; have := s2.out; have := lCA.out; have := uCA.out; have := s3.out; have := LIA.out; have := s4.out; have := LJA.out; have := s5.out; have := s6.out; have := lCX.out; have := uCX.out; have := LX.out; have := HGX.out; have := s7.out; have := LIX.out; have := s8.out; have := LJX.out; have := s9.out; have := s10.out; have := s11.out; have := HGZ.out; have := HGY.out; have := s13.out; have := s14.out; have := LIB.out; have := s15.out; have := s16.out; have := LJB.out; have := s17.out; have := s18.out; have := s19.out; have := s20.out; have := s21.out; have := s22.out; have := s23.out; omega))
  replace OW := hik (OW.out.far kk (fun b o hb ec => ((UOW.out b o ec).imp id (fun q m => by have m1 := m.1; have := sB.out; have := s1.out; have := s2.out; have := lCA.out; have := uCA.out; have := s3.out; have := LIA.out; have := s4.out; have := LJA.out; have := s5.out; have := s6.out; have := lCX.out; have := uCX.out; have := LX.out; have := HGX.out; have := s7.out; have := LIX.out; have := s8.out; have := LJX.out; have := s9.out; have := s10.out; have := s11.out; have := HGZ.out; have := HGY.out; have := s13.out; have := s14.out; have := LIB.out; have := s15.out; have := s16.out; have := LJB.out; have := s17.out; have := s18.out; have := s19.out; have := s20.out; have := s21.out; have := s22.out; have := s23.out; omega))))
  replace QW := hik (QW.out.far kk (fun b o hb ec => ((UQW.out b o ec).imp id (fun q m => by have m1 := m.1; have := sB.out; have := s1.out; have := s2.out; have := lCA.out; have := uCA.out; have := s3.out; have := LIA.out; have := s4.out; have := LJA.out; have := s5.out; have := s6.out; have := lCX.out; have := uCX.out; have := LX.out; have := HGX.out; have := s7.out; have := LIX.out; have := s8.out; have := LJX.out; have := s9.out; have := s10.out; have := s11.out; have := HGZ.out; have := HGY.out; have := s13.out; have := s14.out; have := LIB.out; have := s15.out; have := s16.out; have := LJB.out; have := s17.out; have := s18.out; have := s19.out; have := s20.out; have := s21.out; have := s22.out; have := s23.out; omega))))
  replace QG := hik (QG.out.far kk (fun b o hb ec => by
    rcases Nat.eq_zero_or_pos N with q | q
    · exact .inl q
    · refine .inr (fun m => ?_)
      obtain ⟨_, m2, o2, m3⟩ := m
      rcases APG.out b o2 o m3 ec with q1 | q1 <;> omega))
  replace OG := hik og
  clear og kk
  go_wp2_with fail
  refine (markJ_ownq W8.heap.size dG N qG Fn (1 + M) _ QG (by omega) (by omega) (by omega)).mono ?_
  rintro e W24 ⟨rfl, og, kk⟩
  have s24 := hik kk.size
  replace G := hik (G.out.near kk (fun b m => by have m1 := m.1; have := sB.out; have := s1.out; have := s2.out; have := lCA.out; have := uCA.out; have := s3.out; have := LIA.out; have := s4.out; have := LJA.out; have := s5.out; have := s6.out; have := lCX.out; have := uCX.out; have := LX.out; have := HGX.out; have := s7.out; have := LIX.out; have := s8.out; have := LJX.out; have := s9.out; have := s10.out; have := s11.out; have := HGZ.out; have := HGY.out; have := s13.out; have := s14.out; have := LIB.out; have := s15.out; have := s16.out; have := LJB.out; have := s17.out; have := s18.out; have := s19.out; have := s20.out; have := s21.out; have := s22.out; have := s23.out; have := s24.out; omega))
  replace BX := hik (kk.seeP BX.out (fun m => by have m1 := m.1; have := sB.out; have := s1.out; have := s2.out; have := lCA.out; have := uCA.out; have := s3.out; have := LIA.out; have := s4.out; have := LJA.out; have := s5.out; have := s6.out; have := lCX.out; have := uCX.out; have := LX.out; have := HGX.out; have := s7.out; have := LIX.out; have := s8.out; have := LJX.out; have := s9.out; have := s10.out; have := s11.out; have := HGZ.out; have := HGY.out; have := s13.out; have := s14.out; have := LIB.out; have := s15.out; have := s16.out; have := LJB.out; have := s17.out; have := s18.out; have := s19.out; have := s20.out; have := s21.out; have := s22.out; have := s23.out; have := s24.out; omega))
  replace OW := hik (OW.out.far kk (fun b o hb ec => ((UOW.out b o ec).imp id (fun q m => by have m1 := m.1; have := sB.out; have := s1.out; have := s2.out; have := lCA.out; have := uCA.out; have := s3.out; have := LIA.out; have := s4.out; have := LJA.out; have := s5.out; have := s6.out; have := lCX.out; have := uCX.out; have := LX.out; have := HGX.out; have := s7.out; have := LIX.out; have := s8.out; have := LJX.out; have := s9.out; have := s10.out; have := s11.out; have := HGZ.out; have := HGY.out; have := s13.out; have := s14.out; have := LIB.out; have := s15.out; have := s16.out; have := LJB.out; have := s17.out; have := s18.out; have := s19.out; have := s20.out; have := s21.out; have := s22.out; have := s23.out; have := s24.out; omega))))
  replace QW := hik (QW.out.far kk (fun b o hb ec => ((UQW.out b o ec).imp id (fun q m => by have m1 := m.1; have := sB.out; have := s1.out; have := s2.out; have := lCA.out; have := uCA.out; have := s3.out; have := LIA.out; have := s4.out; have := LJA.out; have := s5.out; have := s6.out; have := lCX.out; have := uCX.out; have := LX.out; have := HGX.out; have := s7.out; have := LIX.out; have := s8.out; have := LJX.out; have := s9.out; have := s10.out; have := s11.out; have := HGZ.out; have := HGY.out; have := s13.out; have := s14.out; have := LIB.out; have := s15.out; have := s16.out; have := LJB.out; have := s17.out; have := s18.out; have := s19.out; have := s20.out; have := s21.out; have := s22.out; have := s23.out; have := s24.out; omega))))
  replace OG := hik (OG.out.far kk (fun b o hb ec => by
    rcases Nat.eq_zero_or_pos M with q | q
    · exact .inl q
    · refine .inr (fun m => ?_)
      obtain ⟨_, m2, o2, m3⟩ := m
      rcases APG.out b o o2 ec m3 with q1 | q1 <;> omega))
  replace QG := hik og
  clear og kk
  go_wp2_with fail
  refine (heldIntS_q cG M pG 1 _ (hik OG.out.row) (by omega) (by omega) (by omega)).mono ?_
  rintro e W25 ⟨rfl, kk⟩
  have s25 := hik kk.size
  replace G := hik (G.out.trans kk)
  replace BX := hik (kk.look BX.out)
  replace OW := hik (OW.out.keep kk)
  replace QW := hik (QW.out.keep kk)
  replace OG := hik (OG.out.keep kk)
  replace QG := hik (QG.out.keep kk)
  clear kk
  go_wp2_with fail
  refine (heldIntS_q dG N qG (1 + M) _ (hik QG.out.row) (by omega) (by omega) (by omega)).mono ?_
  rintro e W26 ⟨rfl, kk⟩
  have s26 := hik kk.size
  replace G := hik (G.out.trans kk)
  replace BX := hik (kk.look BX.out)
  replace OW := hik (OW.out.keep kk)
  replace QW := hik (QW.out.keep kk)
  replace OG := hik (OG.out.keep kk)
  replace QG := hik (QG.out.keep kk)
  clear kk
  have x0 := BX.out
  go_wp2_with fail
  refine (toCircuit_any c0 len0 cap0 G0 _ (hik (HV.out.keep G.out)) (by omega)).mono ?_
  rintro e W27 ⟨b4, rfl, lb, rr, kk⟩
  have s27 := hik kk.size
  replace G := hik (G.out.trans kk)
  replace BX := hik (kk.look BX.out)
  replace OW := hik (OW.out.keep kk)
  replace QW := hik (QW.out.keep kk)
  replace OG := hik (OG.out.keep kk)
  replace QG := hik (QG.out.keep kk)
  have CC := hik rr
  have lCC := hik lb
  have uCC := hik rr.lt
  clear rr kk lb x0
  go_wp2_with fail
  refine (toIntS_any c1 len1 cap1 f1 _ (hik (HY.out.keep G.out)) (by omega)).mono ?_
  rintro e W28 ⟨rfl, rr, kk⟩
  have s28 := hik kk.size
  replace G := hik (G.out.trans kk)
  replace BX := hik (kk.look BX.out)
  replace OW := hik (OW.out.keep kk)
  replace QW := hik (QW.out.keep kk)
  replace OG := hik (OG.out.keep kk)
  replace QG := hik (QG.out.keep kk)
  replace CC := hik (rowIs_keep CC.out kk)
  have IC := hik rr
  clear rr kk
  have LIC := hik (show W27.heap.size < W28.heap.size from IC.out.lt)
  go_wp2_with fail
  refine (toIntS_any c2 len2 cap2 f2 _ (hik (HZ.out.keep G.out)) (by omega)).mono ?_
  rintro e W29 ⟨rfl, rr, kk⟩
  have s29 := hik kk.size
  replace G := hik (G.out.trans kk)
  replace BX := hik (kk.look BX.out)
  replace OW := hik (OW.out.keep kk)
  replace QW := hik (QW.out.keep kk)
  replace OG := hik (OG.out.keep kk)
  replace QG := hik (QG.out.keep kk)
  replace CC := hik (rowIs_keep CC.out kk)
  replace IC := hik (rowIs_keep IC.out kk)
  have JC := hik rr
  clear rr kk
  have LJC := hik (show W28.heap.size < W29.heap.size from JC.out.lt)
  go_wp2_with fail
  refine (HI.out _ _ _ _ (hik (GatV.of_row CC.out (Nat.le_refl _) (fun _ _ => rfl))) (hik (ht.out.keep G.out)) (hik (RowV.of_row IC.out (Nat.le_refl _))) (hik (RowV.of_row JC.out (Nat.le_refl _)))).mono ?_
  rintro e W30 ⟨cH, pH, dH, qH, rfl, oo, oq, ap, kk⟩
  have s30 := hik kk.size
  replace G := hik (G.out.trans kk)
  replace BX := hik (kk.look BX.out)
  replace OW := hik (OW.out.keep kk)
  replace QW := hik (QW.out.keep kk)
  replace OG := hik (OG.out.keep kk)
  replace QG := hik (QG.out.keep kk)
  replace CC := hik (rowIs_keep CC.out kk)
  replace IC := hik (rowIs_keep IC.out kk)
  replace JC := hik (rowIs_keep JC.out kk)
  have OH := hik oo
  have UOH := hik oo.upper
  have QH := hik oq
  have UQH := hik oq.upper
  have APH := hik ap
  clear oo oq ap kk
  clear CC IC JC
  go_wp2_with fail
  refine (eqIntS_any _ _ M M _ _ f1 f1 _ (hik OH.out.row) (hik OW.out.row) rfl (fun _ _ => rfl) (by omega)).mono ?_
  rintro e W31 ⟨rfl, kk⟩
  have s31 := hik kk.size
  replace G := hik (G.out.trans kk)
  replace BX := hik (kk.look BX.out)
  replace OW := hik (OW.out.keep kk)
  replace QW := hik (QW.out.keep kk)
  replace OG := hik (OG.out.keep kk)
  replace QG := hik (QG.out.keep kk)
  replace OH := hik (OH.out.keep kk)
  replace QH := hik (QH.out.keep kk)
  clear kk
  go_wp2_with fail
  refine (eqIntS_any _ _ N N _ _ Fn Fn _ (hik QH.out.row) (hik QW.out.row) rfl (fun _ _ => rfl) (by omega)).mono ?_
  rintro e W32 ⟨rfl, kk⟩
  have s32 := hik kk.size
  replace G := hik (G.out.trans kk)
  replace BX := hik (kk.look BX.out)
  replace OW := hik (OW.out.keep kk)
  replace QW := hik (QW.out.keep kk)
  replace OG := hik (OG.out.keep kk)
  replace QG := hik (QG.out.keep kk)
  replace OH := hik (OH.out.keep kk)
  replace QH := hik (QH.out.keep kk)
  clear kk
  go_wp2_with fail
  refine (heldIntS_q cG M pG 1 _ (hik OG.out.row) (by omega) (by omega) (by omega)).mono ?_
  rintro e W33 ⟨rfl, kk⟩
  have s33 := hik kk.size
  replace G := hik (G.out.trans kk)
  replace BX := hik (kk.look BX.out)
  replace OW := hik (OW.out.keep kk)
  replace QW := hik (QW.out.keep kk)
  replace OG := hik (OG.out.keep kk)
  replace QG := hik (QG.out.keep kk)
  replace OH := hik (OH.out.keep kk)
  replace QH := hik (QH.out.keep kk)
  clear kk
  go_wp2_with fail
  refine (heldIntS_q dG N qG (1 + M) _ (hik QG.out.row) (by omega) (by omega) (by omega)).mono ?_
  rintro e W34 ⟨rfl, kk⟩
  have s34 := hik kk.size
  replace G := hik (G.out.trans kk)
  replace BX := hik (kk.look BX.out)
  replace OW := hik (OW.out.keep kk)
  replace QW := hik (QW.out.keep kk)
  replace OG := hik (OG.out.keep kk)
  replace QG := hik (QG.out.keep kk)
  replace OH := hik (OH.out.keep kk)
  replace QH := hik (QH.out.keep kk)
  clear kk
  go_wp2
  go_ret
  exact ⟨rfl, G.out.belowAll⟩

theorem contract (H : Type) (enc : TypeId × Value → H) (W : World) (base : Nat) (args : Array Value) (ds gs : List (DataW H)) (before : List MemPlace)
    (hval : ∀ (j : Nat) t v, Tryd.f4.params[j]? = some t → args[j]? = some v → Value.okWide Tryd.prog W .any base t v)
    (hW : DataW.Whole enc Tryd.prog Tryd.f4.params.toList Rows.fnExactWitnessOfSpec.vars false W args.toList ds gs before) (hL : laidMetH Tryd.prog Rows.fnExactWitnessOfRow.laid W) :
    Calls Tryd.prog 4 args W fun e W' => ∃ v, e = .returned v ∧ Rows.fnExactWitnessOfSpec.post enc Tryd.prog Tryd.f4 false true false false W args v W' := by
  have hW' := hW
  obtain ⟨p, q, hA0, hV, rfl, hfz, hnd⟩ := hW
  have hA : DataW.TrodAll enc Tryd.prog W 0 (fun _ => true) true Tryd.f4.params.toList args.toList ds p := hA0
  rw [Tryd.params4] at hA hval
  obtain ⟨v0, vs0, d0, ds0, p0, q0, hargs0, rfl, rfl, h0, r0⟩ := trodAll_cons hA
  obtain ⟨v1, vs1, d1, ds1, p1, q1, hargs1, rfl, rfl, h1, r1⟩ := trodAll_cons r0
  obtain ⟨v2, vs2, d2, ds2, p2, q2, hargs2, rfl, rfl, h2, r2⟩ := trodAll_cons r1
  obtain ⟨rfl, rfl, rfl⟩ := trodAll_nil r2
  obtain rfl : args = #[v0, v1, v2] := by cases args; simp_all
  obtain ⟨g, t, cs, fuel, d, pv, rfl, hg, ht, hvar, hd, rfl⟩ := trodVars_one hV
  obtain rfl := Option.some.inj (gTab.symm.trans hg)
  obtain rfl := Option.some.inj (tTab.symm.trans ht)
  have kt0 := h0
  have lt0 : ∀ x ∈ p0, x.block < W.heap.size := by obtain ⟨m, hm⟩ := kt0; exact DataW.trod_lt m _ _ _ hm
  obtain ⟨c0, len0, cap0, G0, rfl, w0, bg0⟩ := in_circuit (hval 0 24 v0 rfl rfl) h0
  have kt1 := h1
  have lt1 : ∀ x ∈ p1, x.block < W.heap.size := by obtain ⟨m, hm⟩ := kt1; exact DataW.trod_lt m _ _ _ hm
  obtain ⟨c1, len1, cap1, f1, rfl, w1, bg1⟩ : ∃ c n cap f, v1 = .slice c n cap ∧ RowV W c n (iv f) ∧ n ≤ 9223372036854775807 := by
    obtain ⟨c, n, cap, rfl⟩ := okWide_slice Tryd.underlying40 (hval 1 40 v1 rfl rfl)
    obtain ⟨fuel, hf⟩ := h1
    exact in_intsC hf
  have kt2 := h2
  have lt2 : ∀ x ∈ p2, x.block < W.heap.size := by obtain ⟨m, hm⟩ := kt2; exact DataW.trod_lt m _ _ _ hm
  obtain ⟨c2, len2, cap2, f2, rfl, w2, bg2⟩ : ∃ c n cap f, v2 = .slice c n cap ∧ RowV W c n (iv f) ∧ n ≤ 9223372036854775807 := by
    obtain ⟨c, n, cap, rfl⟩ := okWide_slice Tryd.underlying40 (hval 2 40 v2 rfl rfl)
    obtain ⟨fuel, hf⟩ := h2
    exact in_intsC hf
  clear hA0
  have hT := table hL
  have hpos : 0 < W.heap.size := World.block_lt_of_cell? W _ (hT.w0 0 (by omega))
  have ltv : ∀ x ∈ pv, x.block < W.heap.size := DataW.trod_lt fuel _ _ _ hd
  refine (walk c0 len0 cap0 G0 c1 len1 cap1 f1 c2 len2 cap2 f2 W w0 bg0 w1 bg1 w2 bg2 (hik hT)).mono fun e W' ⟨he, hbl⟩ => ?_
  subst he
  obtain ⟨fu, hfu⟩ := Below.trod laidOut (by kernel_rfl) (of_decide_eq_true (by kernel_rfl)) (v := .agg cs) ⟨fuel, hd⟩ hbl ltv
  exact ⟨_, rfl, _, _, _, [], _, _, hW', trodAll_mk1 (shut_bool Tryd.underlying4 _), (trodAll_cons_mk (Below.trod laidOut (by kernel_rfl) (of_decide_eq_true (by kernel_rfl)) kt0 hbl lt0) (trodAll_cons_mk (Below.trod laidOut (by kernel_rfl) (of_decide_eq_true (by kernel_rfl)) kt1 hbl lt1) (trodAll_cons_mk (Below.trod laidOut (by kernel_rfl) (of_decide_eq_true (by kernel_rfl)) kt2 hbl lt2) trodAll_mk0))),
    trodVars_mk1 hg ht (var?_below hbl hg hpos hvar) hfu, hbl.frame _, fun h => by cases h⟩

theorem laid_met (os : Os) : laidMetH Tryd.prog Rows.fnExactWitnessOfRow.laid ((World.doorLaid Tryd.prog 400 os).forCall (fun _ _ => 0) ⟨#[], #[.agg #[.slice none 0 0], .slice none 0 0, .slice none 0 0], []⟩).memory :=
  laidMet_of_run' 8 (by kernel_rfl) (by kernel_rfl)

set_option maxRecDepth 100000 in
theorem lifted (os : Os) (started : os.Started) (H : Type) (enc : TypeId × Value → H) (F : Stop.Interp) :
    ReturnsInHanded {} Tryd.checked os 4 .any ((OpenSpec.ofChange Rows.fnExactWitnessOfSpec).preRow enc Tryd.prog Tryd.f4 Rows.fnExactWitnessOfRow.domain false Rows.fnExactWitnessOfRow.laid) (((OpenSpec.ofChange Rows.fnExactWitnessOfSpec).at F).post enc Tryd.prog Tryd.f4 false true false false) := by
  obtain ⟨x, hx⟩ : ∃ x, DataW.whole enc Tryd.prog ((World.doorLaid Tryd.prog 400 os).forCall (fun _ _ => 0) ⟨#[], #[.agg #[.slice none 0 0], .slice none 0 0, .slice none 0 0], []⟩).memory Tryd.f4.params.toList Rows.fnExactWitnessOfSpec.vars false #[.agg #[.slice none 0 0], .slice none 0 0, .slice none 0 0].toList 8 = some x := ⟨([.agg [.nil], .nil, .nil], [Rows.laid_loop_example_g00348_impl_shapes], MemPlace.row ⟨0, 0, none⟩ 24), by kernel_rfl⟩
  refine returnsInHanded_of_row (C := Tryd.checked) (s := OpenSpec.ofChange Rows.fnExactWitnessOfSpec) own started (by kernel_rfl) Tryd.func4
    (witness_row_at (enc := enc) (C := Tryd.checked) false (World.doorLaid Tryd.prog 400 os) #[.agg #[.slice none 0 0], .slice none 0 0, .slice none 0 0] rfl (by kernel_rfl) (by kernel_rfl) (by kernel_rfl)
      (OpenSpec.preRow_of_cond 8 hx (by kernel_rfl) (fun k hk => by cases hk) (by kernel_rfl) (laid_met os))) ?_
  intro W base args ds gs before hval hW _ _ _ hL _ _
  exact contract H enc W base args ds gs before hval hW hL

theorem said : Rows.FnExactWitnessOfSaid :=
  OpenClaim.holds_of_cond 4 Tryd.f4 rfl rfl rfl rfl rfl rfl rfl ⟨rfl, rfl, rfl, rfl, rfl⟩ rfl rfl rfl rfl rfl (by kernel_rfl) Tryd.func4 (by kernel_rfl)
    (of_decide_eq_true (by kernel_rfl)) (by unfold Func.isWrapper; first | (rw [if_pos (by decide +kernel)]; kernel_rfl) | (rw [if_neg (by decide +kernel)]; exact ⟨rfl, rfl⟩))
    (fun os started H enc _ F => by rw [OpenClaim.pre_eq_preRow]; exact lifted os started H enc F)

/-- No parameter wants a stand-in. -/
theorem plain (f : FuncId) (fn : Func) (hf : Tryd.pinned.checked.prog.funcNamed Rows.fnExactWitnessOfRow.func = some f) (hfn : Tryd.pinned.checked.prog.funcs[f]? = some fn) :
    true = Tryd.pinned.checked.prog.looks [] ∧ ∀ (j : Nat) t, fn.params[j]? = some t → Tryd.pinned.checked.prog.wantsStandIn t = false := by
  obtain rfl : f = 4 := Option.some.inj ((show Tryd.prog.funcNamed Rows.fnExactWitnessOfRow.func = some 4 by kernel_rfl).symm.trans hf) |>.symm
  obtain rfl : fn = Tryd.f4 := (Option.some.inj (Tryd.func4.symm.trans hfn)).symm
  refine ⟨by kernel_rfl, fun j t ht => ?_⟩
  rw [Tryd.params4] at ht
  have hm := Array.mem_of_getElem? ht
  simp at hm
  rcases hm with rfl | rfl <;> first | exact (show Tryd.prog.wantsStandIn 24 = false by kernel_rfl) | exact (show Tryd.prog.wantsStandIn 40 = false by kernel_rfl)
end Go.Proofs.YtgimmmmiodlepabDoor.fnExactWitnessOf
namespace Go.Proofs.YtgimmmmiodlepabDoor
theorem FnExactWitnessOf_holds : Rows.FnExactWitnessOfCardSaid :=
  Claim7.holds_tied_plain_at .later [] _ _ _ _ fnExactWitnessOf.said (fun _ h => by cases h) (by kernel_rfl) (fun _ h => by cases h) fnExactWitnessOf_row_tie rfl ⟨rfl, rfl⟩ (by kernel_rfl) rfl fnExactWitnessOf.plain (by kernel_rfl)
#print axioms FnExactWitnessOf_holds
end Go.Proofs.YtgimmmmiodlepabDoor
