/- What the model's values of a circuit and RunCircuit answer: contracts. -/
import Derived.Test.YtgimmmmiodlepabDoorAskS
import Derived.Test.YtgimmmmiodlepabDoorAskO
import Derived.Test.YtgimmmmiodlepabDoorRnAn
import Derived.Test.YtgimmmmiodlepabDoorRunN
import Derived.Test.YtgimmmmiodlepabDoorIGro
import Derived.Test.YtgimmmmiodlepabDoorStepL
import Derived.Deep.DeepCutAuto
namespace Go.Proofs.YtgimmmmiodlepabDoor
open Go.ChangeShapes Go.WideShapes Go.ChangeAt Go.RowKit
set_option linter.unusedVariables false
set_option maxRecDepth 100000
set_option linter.unusedSimpArgs false

theorem add11_c (u v : Int) (w : World) (a : fnb u) (b : fnb v) : Calls Tryd.prog 83 #[.int .i64 u, .int .i64 v] w fun e w' => e = .returned (.int .i64 ((u + v) % 2130706433)) ∧ Chg nob w w' := (l01Add_any u v w a.1 a.2 b.1 b.2).mono (fun e w' h => ⟨h.1, chg_eq h.2⟩)
theorem sub11_c (u v : Int) (w : World) (a : fnb u) (b : fnb v) : Calls Tryd.prog 84 #[.int .i64 u, .int .i64 v] w fun e w' => e = .returned (.int .i64 ((u + 2130706433 - v) % 2130706433)) ∧ Chg nob w w' := (l01Sub_any u v w a.1 a.2 b.1 b.2).mono (fun e w' h => ⟨h.1, chg_eq h.2⟩)
theorem mul11_c (u v : Int) (w : World) (a : fnb u) (b : fnb v) : Calls Tryd.prog 85 #[.int .i64 u, .int .i64 v] w fun e w' => e = .returned (.int .i64 (u * v % 2130706433)) ∧ Chg nob w w' := (l01Mul_any u v w a.1 a.2 b.1 b.2).mono (fun e w' h => ⟨h.1, chg_eq h.2⟩)
def RvAns (w : World) (n : Nat) (f : Nat → Int) (e : Ending) (w' : World) : Prop := ∃ v, e = .returned v ∧ IGr w' w.heap.size v n f ∧ Chg nob w w'
theorem rvl_next (G : Nat → Gt) (P I : Nat → Int) (k : Nat) (z : Int) (hz : z = rvk G P I k (rvl G P I k)) : ∀ i, i < k + 1 → (if i = k then z else rvl G P I k i) = rvl G P I (k + 1) i := by
  intro i hi
  rw [rvl_s, hz]
set_option maxHeartbeats 16000000 in
theorem sRun11_any (c : Option Addr) (n cap : Nat) (G : Nat → Gt) (cp : Option Addr) (np capp : Nat) (P : Nat → Int) (ci : Option Addr) (ni capi : Nat) (I : Nat → Int) (w : World) (hv : Hid (GatV w c n G)) (hp : Hid (RowV w cp np (iv P))) (hi : Hid (RowV w ci ni (iv I))) (h15 : n ≤ 15) (hg : Hid (∀ i, i < n → gtb i (G i) = true)) (ep : Hid (np = ctg 2 n G)) (ei : Hid (ni = ctg 1 n G)) (fp : Hid (∀ i, i < np → fnb (P i))) (fi : Hid (∀ i, i < ni → fnb (I i))) :
    Calls Tryd.prog 47 #[.agg #[.slice c n cap], .slice cp np capp, .slice ci ni capi] w fun e w' => RvAns w n (rvl G P I n) e w' := by
  have HV := hik (rvl_fn hg.out ep.out ei.out fp.out fi.out)
  have KB := hik ((Chg.refl nob w).alloc (.cells #[.slice c n cap] 33))
  have x0 : World.cell? (w.alloc (.cells #[.slice c n cap] 33)) ⟨w.heap.size, 0, none⟩ = some (.slice c n cap) := by go_simp
  have HB0 := hik (show w.heap.size + 1 = (w.alloc (.cells #[.slice c n cap] 33)).heap.size by simp)
  have FR := hik (IGr.fresh (w.alloc (.cells #[.slice c n cap] 33)) (w.heap.size + 1) (rvl G P I 0) (by simp))
  have KO := hik (KB.out.alloc (.cells #[] 3))
  have X1 := hik (((Chg.refl nob (w.alloc (.cells #[.slice c n cap] 33))).alloc (.cells #[] 3)).look x0)
  have LO := hik (show w.heap.size + 1 ≤ ((w.alloc (.cells #[.slice c n cap] 33)).alloc (.cells #[] 3)).heap.size by simp)
  rw [← HB0.out] at FR
  clear x0 KB HB0
  go_enter Tryd.func47, Tryd.ntmps47
  go_wp2
  generalize (w.alloc (.cells #[.slice c n cap] 33)).alloc (.cells #[] 3) = W0 at FR KO X1 LO ⊢
  go_loopw [7, 8, 9, 10] (fun v7 v8 v9 i W => ∃ k : Nat, k ≤ n ∧ i = .int .i64 k ∧ v8 = .int .i64 (ctg 2 k G : Nat) ∧ v9 = .int .i64 (ctg 1 k G : Nat) ∧ Hid (IGr W (w.heap.size + 1) v7 k (rvl G P I k)) ∧ Hid (Chg nob w W) ∧ Hid (W.cell? ⟨w.heap.size, 0, none⟩ = some (.slice c n cap)) ∧ Hid (w.heap.size + 1 ≤ W.heap.size)) (fun _ _ _ i _ => n - (intOf i).toNat)
  case atStart => exact ⟨0, Nat.zero_le _, rfl, rfl, rfl, FR, KO, X1, LO⟩
  case round =>
    clear FR KO X1 LO
    obtain ⟨k, hk, rfl, rfl, rfl, HI, HK, HX, HL⟩ := hrel
    rename World => wi
    have x0 := HX.out
    by_cases hlt : k < n
    · have hkn : ((k : Nat) : Int) < n := by omega
      obtain ⟨xb, xo, rfl, hxb, c0, c1, c2, c3⟩ := (hv.out.keep HK.out) k hlt
      have GK := hik (hg.out k hlt)
      have HS2 := hik (ctg_s 2 k G)
      have HS1 := hik (ctg_s 1 k G)
      have hb2 := ctg_le 2 G k
      have hb1 := ctg_le 1 G k
      have L2 := hik (fun (q : (G k).1 = 2) => (ctg_lt hlt q : ctg 2 k G < ctg 2 n G))
      have L1 := hik (fun (q : (G k).1 = 1) => (ctg_lt hlt q : ctg 1 k G < ctg 1 n G))
      have RK := hik (show rvk G P I k (rvl G P I k) = rvk G P I k (rvl G P I k) from rfl)
      have QA := hik (fun (q : 4 ≤ (G k).1) => gtb_A GK.out q)
      have QB := hik (fun (q : 4 ≤ (G k).1 ∧ (G k).1 ≤ 7) => gtb_B GK.out q)
      have HO := hik (gtb_op GK.out)
      obtain ⟨gs, caps, rfl, hcs, hcm, RS⟩ := HI.out.row
      have HRS := hik RS
      clear RS
      have HVk := hik (HV.out k hk)
      generalize hga : (G k).2.1 = ga at c1
      generalize hgb : (G k).2.2.1 = gb at c2
      generalize hgk : (G k).2.2.2 = gk at c3
      have EA := hik hga
      have EB := hik hgb
      have EK := hik hgk
      clear hga hgb hgk
      by_cases e1 : (G k).1 = 1
      · rw [e1] at c0
        have hix : (ctg 1 k G : Nat) < ni := by have := L1.out e1; have := ei.out; omega
        obtain ⟨yb, yo, rfl, hyb, d0⟩ := (hi.out.keep HK.out) (ctg 1 k G) hix
        have d0 : wi.cell? ⟨yb, yo + ctg 1 k G, none⟩ = some (.int .i64 (I (ctg 1 k G))) := d0
        have hix' : ((ctg 1 k G : Nat) : Int) < ni := by omega
        have EZ := hik (show I (ctg 1 k G) = rvk G P I k (rvl G P I k) by unfold rvk; rw [if_pos e1])
        have KA := hik ((Chg.refl nob wi).alloc (.cells #[.int .i64 1, .int .i64 ga, .int .i64 gb, .int .i64 gk] 51))
        have IA := hik (HI.out.keep KA.out)
        have KKA := hik (HK.out.trans KA.out)
        have XA := hik (KA.out.look HX.out)
        have LA := hik (show w.heap.size + 1 ≤ (wi.alloc (.cells #[.int .i64 1, .int .i64 ga, .int .i64 gb, .int .i64 gk] 51)).heap.size from Nat.le_trans HL.out KA.out.size)
        have d1 := KA.out.see d0
        generalize I (ctg 1 k G) = z at d0 d1 EZ
        clear d0
        go_upto_region 25 with fail
        clear c0 c1 c2 c3 d1
        generalize wi.alloc (.cells #[.int .i64 1, .int .i64 ga, .int .i64 gb, .int .i64 gk] 51) = W2 at KA IA KKA XA LA ⊢
        clear KA
        have EV := hik (show z = rvk G P I k (rvl G P I k) from EZ.out)
        have IB := hik (IA.out.keep ((Chg.refl nob W2).alloc (.cells #[.int .i64 z] 3)))
        have CB := hik (show World.cell? (W2.alloc (.cells #[.int .i64 z] 3)) ⟨W2.heap.size, 0, none⟩ = some (.int .i64 z) by go_simp)
        have LB := hik (show w.heap.size + 1 ≤ (W2.alloc (.cells #[.int .i64 z] 3)).heap.size from Nat.le_trans LA.out ((Chg.refl nob W2).alloc (.cells #[.int .i64 z] 3)).size)
        have KQ := hik (KKA.out.alloc (.cells #[.int .i64 z] 3))
        have XB := hik (((Chg.refl nob W2).alloc (.cells #[.int .i64 z] 3)).look XA.out)
        go_wp2_with (at_builtin; refine wpList_app1 (by rfl) (.tmp 92) (.tmp 94) (by rfl) (w.heap.size + 1) k W2.heap.size _ _ z (by rfl) (by rfl) IB.out CB.out (by omega) LB.out ?b6)
        case b6 =>
          intro v7 w7 hg7 k7
          have HI7 := hik (hg7.congr (rvl_next G P I k z EV.out))
          have KZ := hik (KQ.out.near k7 (fun i q => by have q : w.heap.size + 1 ≤ i := q; omega))
          have X7 := hik (k7.seeP XB.out (fun q => by have q : w.heap.size + 1 ≤ w.heap.size := q; omega))
          have L7 := hik (Nat.le_trans LB.out k7.size)
          clear hg7 k7 IB CB LB KQ XB
          go_wp2
          go_roundw
          case rel => exact ⟨k + 1, by omega, by go_num, by rw [HS2.out, if_neg (by omega)]; go_num, by rw [HS1.out, if_pos (by omega)]; go_num, HI7, KZ, X7, L7⟩
          case measure => simp [intOf]; omega
      by_cases e2 : (G k).1 = 2
      · rw [e2] at c0
        have hix : (ctg 2 k G : Nat) < np := by have := L2.out e2; have := ep.out; omega
        obtain ⟨yb, yo, rfl, hyb, d0⟩ := (hp.out.keep HK.out) (ctg 2 k G) hix
        have d0 : wi.cell? ⟨yb, yo + ctg 2 k G, none⟩ = some (.int .i64 (P (ctg 2 k G))) := d0
        have hix' : ((ctg 2 k G : Nat) : Int) < np := by omega
        have EZ := hik (show P (ctg 2 k G) = rvk G P I k (rvl G P I k) by unfold rvk; rw [if_neg e1, if_pos e2])
        have KA := hik ((Chg.refl nob wi).alloc (.cells #[.int .i64 2, .int .i64 ga, .int .i64 gb, .int .i64 gk] 51))
        have IA := hik (HI.out.keep KA.out)
        have KKA := hik (HK.out.trans KA.out)
        have XA := hik (KA.out.look HX.out)
        have LA := hik (show w.heap.size + 1 ≤ (wi.alloc (.cells #[.int .i64 2, .int .i64 ga, .int .i64 gb, .int .i64 gk] 51)).heap.size from Nat.le_trans HL.out KA.out.size)
        have d1 := KA.out.see d0
        generalize P (ctg 2 k G) = z at d0 d1 EZ
        clear d0
        go_upto_region 25 with fail
        clear c0 c1 c2 c3 d1
        generalize wi.alloc (.cells #[.int .i64 2, .int .i64 ga, .int .i64 gb, .int .i64 gk] 51) = W2 at KA IA KKA XA LA ⊢
        clear KA
        have EV := hik (show z = rvk G P I k (rvl G P I k) from EZ.out)
        have IB := hik (IA.out.keep ((Chg.refl nob W2).alloc (.cells #[.int .i64 z] 3)))
        have CB := hik (show World.cell? (W2.alloc (.cells #[.int .i64 z] 3)) ⟨W2.heap.size, 0, none⟩ = some (.int .i64 z) by go_simp)
        have LB := hik (show w.heap.size + 1 ≤ (W2.alloc (.cells #[.int .i64 z] 3)).heap.size from Nat.le_trans LA.out ((Chg.refl nob W2).alloc (.cells #[.int .i64 z] 3)).size)
        have KQ := hik (KKA.out.alloc (.cells #[.int .i64 z] 3))
        have XB := hik (((Chg.refl nob W2).alloc (.cells #[.int .i64 z] 3)).look XA.out)
        go_wp2_with (at_builtin; refine wpList_app1 (by rfl) (.tmp 92) (.tmp 94) (by rfl) (w.heap.size + 1) k W2.heap.size _ _ z (by rfl) (by rfl) IB.out CB.out (by omega) LB.out ?b6)
        case b6 =>
          intro v7 w7 hg7 k7
          have HI7 := hik (hg7.congr (rvl_next G P I k z EV.out))
          have KZ := hik (KQ.out.near k7 (fun i q => by have q : w.heap.size + 1 ≤ i := q; omega))
          have X7 := hik (k7.seeP XB.out (fun q => by have q : w.heap.size + 1 ≤ w.heap.size := q; omega))
          have L7 := hik (Nat.le_trans LB.out k7.size)
          clear hg7 k7 IB CB LB KQ XB
          go_wp2
          go_roundw
          case rel => exact ⟨k + 1, by omega, by go_num, by rw [HS2.out, if_pos (by omega)]; go_num, by rw [HS1.out, if_neg (by omega)]; go_num, HI7, KZ, X7, L7⟩
          case measure => simp [intOf]; omega
      by_cases e3 : (G k).1 = 3
      · rw [e3] at c0
        have KA := hik ((Chg.refl nob wi).alloc (.cells #[.int .i64 3, .int .i64 ga, .int .i64 gb, .int .i64 gk] 51))
        have IA := hik (HI.out.keep KA.out)
        have KKA := hik (HK.out.trans KA.out)
        have XA := hik (KA.out.look HX.out)
        have LA := hik (show w.heap.size + 1 ≤ (wi.alloc (.cells #[.int .i64 3, .int .i64 ga, .int .i64 gb, .int .i64 gk] 51)).heap.size from Nat.le_trans HL.out KA.out.size)
        
        go_upto_region 25 with fail
        clear c0 c1 c2 c3
        generalize wi.alloc (.cells #[.int .i64 3, .int .i64 ga, .int .i64 gb, .int .i64 gk] 51) = W2 at KA IA KKA XA LA ⊢
        clear KA
        have EV := hik (show gk = rvk G P I k (rvl G P I k) from by unfold rvk; rw [if_neg e1, if_neg e2, if_pos e3, EK.out])
        have IB := hik (IA.out.keep ((Chg.refl nob W2).alloc (.cells #[.int .i64 gk] 3)))
        have CB := hik (show World.cell? (W2.alloc (.cells #[.int .i64 gk] 3)) ⟨W2.heap.size, 0, none⟩ = some (.int .i64 gk) by go_simp)
        have LB := hik (show w.heap.size + 1 ≤ (W2.alloc (.cells #[.int .i64 gk] 3)).heap.size from Nat.le_trans LA.out ((Chg.refl nob W2).alloc (.cells #[.int .i64 gk] 3)).size)
        have KQ := hik (KKA.out.alloc (.cells #[.int .i64 gk] 3))
        have XB := hik (((Chg.refl nob W2).alloc (.cells #[.int .i64 gk] 3)).look XA.out)
        go_wp2_with (at_builtin; refine wpList_app1 (by rfl) (.tmp 92) (.tmp 94) (by rfl) (w.heap.size + 1) k W2.heap.size _ _ gk (by rfl) (by rfl) IB.out CB.out (by omega) LB.out ?b6)
        case b6 =>
          intro v7 w7 hg7 k7
          have HI7 := hik (hg7.congr (rvl_next G P I k gk EV.out))
          have KZ := hik (KQ.out.near k7 (fun i q => by have q : w.heap.size + 1 ≤ i := q; omega))
          have X7 := hik (k7.seeP XB.out (fun q => by have q : w.heap.size + 1 ≤ w.heap.size := q; omega))
          have L7 := hik (Nat.le_trans LB.out k7.size)
          clear hg7 k7 IB CB LB KQ XB
          go_wp2
          go_roundw
          case rel => exact ⟨k + 1, by omega, by go_num, by rw [HS2.out, if_neg (by omega)]; go_num, by rw [HS1.out, if_neg (by omega)]; go_num, HI7, KZ, X7, L7⟩
          case measure => simp [intOf]; omega
      by_cases e4 : (G k).1 = 4
      · rw [e4] at c0
        have qa := QA.out (by omega)
        have qb := QB.out (by omega)
        rw [EA.out] at qa
        rw [EB.out] at qb
        obtain ⟨an, rfl⟩ : ∃ an : Nat, ga = (an : Int) := ⟨ga.toNat, by omega⟩
        obtain ⟨bn, rfl⟩ : ∃ bn : Nat, gb = (bn : Int) := ⟨gb.toNat, by omega⟩
        have han : an < k := by omega
        have hbn : bn < k := by omega
        obtain ⟨yb, yo, rfl, hyb, d0⟩ := HRS.out an han
        obtain ⟨yb', yo', ee, _, f0⟩ := HRS.out bn hbn
        cases ee
        have d0 : wi.cell? ⟨yb, yo + an, none⟩ = some (.int .i64 (rvl G P I k an)) := d0
        have f0 : wi.cell? ⟨yb, yo + bn, none⟩ = some (.int .i64 (rvl G P I k bn)) := f0
        have fu := HVk.out an han
        have fv := HVk.out bn hbn
        have EAN := hik (show ((an : Int)).toNat = an by omega)
        have EBN := hik (show ((bn : Int)).toNat = bn by omega)
        have EZ := hik (show ((rvl G P I k an + rvl G P I k bn) % 2130706433) = rvk G P I k (rvl G P I k) from by unfold rvk; rw [if_neg e1, if_neg e2, if_neg e3, if_pos e4, EA.out, EB.out, EAN.out, EBN.out])
        have ia : (an : Int) < k := by omega
        have ib : (bn : Int) < k := by omega
        have KA := hik ((Chg.refl nob wi).alloc (.cells #[.int .i64 4, .int .i64 (an : Int), .int .i64 (bn : Int), .int .i64 gk] 51))
        have IA := hik (HI.out.keep KA.out)
        have KKA := hik (HK.out.trans KA.out)
        have XA := hik (KA.out.look HX.out)
        have LA := hik (show w.heap.size + 1 ≤ (wi.alloc (.cells #[.int .i64 4, .int .i64 (an : Int), .int .i64 (bn : Int), .int .i64 gk] 51)).heap.size from Nat.le_trans HL.out KA.out.size)
        have d1 := KA.out.see d0
        have f1 := KA.out.see f0
        have g1 : World.cell? (wi.alloc (.cells #[.int .i64 4, .int .i64 (an : Int), .int .i64 (bn : Int), .int .i64 gk] 51)) ⟨wi.heap.size, 1, none⟩ = some (.int .i64 (an : Int)) := by go_simp
        have g2 : World.cell? (wi.alloc (.cells #[.int .i64 4, .int .i64 (an : Int), .int .i64 (bn : Int), .int .i64 gk] 51)) ⟨wi.heap.size, 2, none⟩ = some (.int .i64 (bn : Int)) := by go_simp
        generalize rvl G P I k an = u at d0 d1 fu EZ
        generalize rvl G P I k bn = v at f0 f1 fv EZ
        clear d0 f0 HRS
        go_upto_region 20 with fail
        clear c0 c1 c2 c3 KA
        generalize wi.alloc (.cells #[.int .i64 4, .int .i64 (an : Int), .int .i64 (bn : Int), .int .i64 gk] 51) = W2 at IA KKA XA LA d1 f1 g1 g2 ⊢
        have KW := hik ((Chg.refl nob W2).drew1)
        have SA := hik (fun (WW : World) (kW : Chg nob W2 WW) => (show (WW.cell? ⟨wi.heap.size, 1, none⟩ = some (.int .i64 (an : Int)) ∧ WW.cell? ⟨wi.heap.size, 2, none⟩ = some (.int .i64 (bn : Int)) ∧ WW.cell? ⟨yb, yo + an, none⟩ = some (.int .i64 u) ∧ WW.cell? ⟨yb, yo + bn, none⟩ = some (.int .i64 v)) from ⟨kW.see g1, kW.see g2, kW.see d1, kW.see f1⟩))
        refine wp_region_held_drew (S := fun w' => w'.cell? ⟨wi.heap.size, 1, none⟩ = some (.int .i64 (an : Int)) ∧ w'.cell? ⟨wi.heap.size, 2, none⟩ = some (.int .i64 (bn : Int)) ∧ w'.cell? ⟨yb, yo + an, none⟩ = some (.int .i64 u) ∧ w'.cell? ⟨yb, yo + bn, none⟩ = some (.int .i64 v)) (by kernel_rfl) ⟨g1, g2, d1, f1⟩ (fun hHeld => ?_)
        refine wpAnyH_take (i := 0) (v := ?_) rfl (by kernel_rfl) (by kernel_rfl) (by kernel_rfl) (fun _ _ _ h => h) (Or.inl ⟨by rfl, ?_⟩) (by assumption) ?_
        rotate_left 1
        · (intro w' hSw; (try dsimp only at hSw); go_simp; try with_reducible rfl)
        try simp only [Act.put, List.setIfInBounds_toArray, List.set_cons_zero, List.set_cons_succ, List.getElem_toArray, List.getElem_cons_zero, List.getElem_cons_succ]
        refine wpAnyH_take (i := 1) (v := ?_) rfl (by kernel_rfl) (by kernel_rfl) (by kernel_rfl) (fun _ _ _ h => h) (Or.inl ⟨by rfl, ?_⟩) (by assumption) ?_
        rotate_left 1
        · (intro w' hSw; (try dsimp only at hSw); go_simp; try with_reducible rfl)
        try simp only [Act.put, List.setIfInBounds_toArray, List.set_cons_zero, List.set_cons_succ, List.getElem_toArray, List.getElem_cons_zero, List.getElem_cons_succ]
        refine wpAnyH_take (i := 2) (v := ?_) rfl (by kernel_rfl) (by kernel_rfl) (by kernel_rfl) (fun _ _ _ h => h) (Or.inl ⟨by rfl, ?_⟩) (by assumption) ?_
        rotate_left 1
        · (intro w' hSw; (try dsimp only at hSw); go_simp; try with_reducible rfl)
        try simp only [Act.put, List.setIfInBounds_toArray, List.set_cons_zero, List.set_cons_succ, List.getElem_toArray, List.getElem_cons_zero, List.getElem_cons_succ]
        refine wpAnyH_take (i := 3) (v := ?_) rfl (by kernel_rfl) (by kernel_rfl) (by kernel_rfl) (fun _ _ _ h => h) (Or.inl ⟨by rfl, ?_⟩) (by assumption) ?_
        rotate_left 1
        · (intro w' hSw; (try dsimp only at hSw); go_simp; try with_reducible rfl)
        try simp only [Act.put, List.setIfInBounds_toArray, List.set_cons_zero, List.set_cons_succ, List.getElem_toArray, List.getElem_cons_zero, List.getElem_cons_succ]
        refine wpAnyH_take (i := 4) (v := ?_) rfl (by kernel_rfl) (by kernel_rfl) (by kernel_rfl) (fun _ _ _ h => h) (Or.inl ⟨by rfl, ?_⟩) (by assumption) ?_
        rotate_left 1
        · (intro w' hSw; (try dsimp only at hSw); go_simp; try with_reducible rfl)
        try simp only [Act.put, List.setIfInBounds_toArray, List.set_cons_zero, List.set_cons_succ, List.getElem_toArray, List.getElem_cons_zero, List.getElem_cons_succ]
        refine wpAnyH_take (i := 5) (v := ?_) rfl (by kernel_rfl) (by kernel_rfl) (by kernel_rfl) (fun _ _ _ h => h) (Or.inl ⟨by rfl, ?_⟩) (by assumption) ?_
        rotate_left 1
        · (intro w' hSw; (try dsimp only at hSw); go_simp; try with_reducible rfl)
        try simp only [Act.put, List.setIfInBounds_toArray, List.set_cons_zero, List.set_cons_succ, List.getElem_toArray, List.getElem_cons_zero, List.getElem_cons_succ]
        refine wpAnyH_take (i := 6) (v := ?_) rfl (by kernel_rfl) (by kernel_rfl) (by kernel_rfl) (fun _ _ _ h => h) (Or.inl ⟨by rfl, ?_⟩) (by assumption) ?_
        rotate_left 1
        · (intro w' hSw; (try dsimp only at hSw); go_simp; try with_reducible rfl)
        try simp only [Act.put, List.setIfInBounds_toArray, List.set_cons_zero, List.set_cons_succ, List.getElem_toArray, List.getElem_cons_zero, List.getElem_cons_succ]
        refine wpAnyH_take (i := 7) (v := ?_) rfl (by kernel_rfl) (by kernel_rfl) (by kernel_rfl) (fun _ _ _ h => h) (Or.inl ⟨by rfl, ?_⟩) (by assumption) ?_
        rotate_left 1
        · (intro w' hSw; (try dsimp only at hSw); go_simp; try with_reducible rfl)
        try simp only [Act.put, List.setIfInBounds_toArray, List.set_cons_zero, List.set_cons_succ, List.getElem_toArray, List.getElem_cons_zero, List.getElem_cons_succ]
        refine wpAnyH_take (i := 8) (v := ?_) rfl (by kernel_rfl) (by kernel_rfl) (by kernel_rfl) (fun _ _ _ h => h) (Or.inl ⟨by rfl, ?_⟩) (by assumption) ?_
        rotate_left 1
        · (intro w' hSw; (try dsimp only at hSw); go_simp; try with_reducible rfl)
        try simp only [Act.put, List.setIfInBounds_toArray, List.set_cons_zero, List.set_cons_succ, List.getElem_toArray, List.getElem_cons_zero, List.getElem_cons_succ]
        refine wpAnyH_take (i := 9) (v := ?_) rfl (by kernel_rfl) (by kernel_rfl) (by kernel_rfl) (fun _ _ _ h => h) (Or.inl ⟨by rfl, ?_⟩) (by assumption) ?_
        rotate_left 1
        · (intro w' hSw; (try dsimp only at hSw); go_simp; try with_reducible rfl)
        try simp only [Act.put, List.setIfInBounds_toArray, List.set_cons_zero, List.set_cons_succ, List.getElem_toArray, List.getElem_cons_zero, List.getElem_cons_succ]
        refine wpAnyH_ready (rs := [10]) (by kernel_rfl) (by simp) ?_
        refine AllReadyH.cons rfl (fun K hK => ?_) AllReadyH.nil
        refine stepL_callN 83 #[.tmp 59, .tmp 64] #[3, 3] (by rfl) (by rfl) #[.int .i64 u, .int .i64 v] (by simp only [List.map_toArray, List.map_cons, List.map_nil] <;> rfl) (run_go Tryd.func83 (by kernel_rfl) (by kernel_rfl) _ _) (add11_c u v _ fu fv) ?_
        rintro e U1 ⟨he, kk⟩
        refine ⟨_, he, ?_⟩
        replace KW := hik (KW.out.trans kk)
        refine hK.out _ _ (SA.out _ KW.out) (fun hHeld => ?_)
        clear hK K
        try simp only [Act.put, List.setIfInBounds_toArray, List.set_cons_zero, List.set_cons_succ, List.getElem_toArray, List.getElem_cons_zero, List.getElem_cons_succ]
        clear he kk
        refine wpAnyH_take (i := 11) (v := ?_) rfl (by kernel_rfl) (by kernel_rfl) (by kernel_rfl) (fun _ _ _ h => h) (Or.inl ⟨by rfl, ?_⟩) (by assumption) ?_
        rotate_left 1
        · (intro w' hSw; (try dsimp only at hSw); go_simp; try with_reducible rfl)
        try simp only [Act.put, List.setIfInBounds_toArray, List.set_cons_zero, List.set_cons_succ, List.getElem_toArray, List.getElem_cons_zero, List.getElem_cons_succ]
        refine wpAnyH_done (by kernel_rfl) ?_ _
        replace IA := hik (IA.out.keep KW.out)
        replace KKA := hik (KKA.out.trans KW.out)
        replace XA := hik (KW.out.look XA.out)
        replace LA := hik (Nat.le_trans LA.out KW.out.size)
        clear SA KW hHeld d1 f1 g1 g2
        have EV := hik (show ((u + v) % 2130706433) = rvk G P I k (rvl G P I k) from EZ.out)
        have IB := hik (IA.out.keep ((Chg.refl nob U1).alloc (.cells #[.int .i64 ((u + v) % 2130706433)] 3)))
        have CB := hik (show World.cell? (U1.alloc (.cells #[.int .i64 ((u + v) % 2130706433)] 3)) ⟨U1.heap.size, 0, none⟩ = some (.int .i64 ((u + v) % 2130706433)) by go_simp)
        have LB := hik (show w.heap.size + 1 ≤ (U1.alloc (.cells #[.int .i64 ((u + v) % 2130706433)] 3)).heap.size from Nat.le_trans LA.out ((Chg.refl nob U1).alloc (.cells #[.int .i64 ((u + v) % 2130706433)] 3)).size)
        have KQ := hik (KKA.out.alloc (.cells #[.int .i64 ((u + v) % 2130706433)] 3))
        have XB := hik (((Chg.refl nob U1).alloc (.cells #[.int .i64 ((u + v) % 2130706433)] 3)).look XA.out)
        go_wp2_with (at_builtin; refine wpList_app1 (by rfl) (.tmp 92) (.tmp 94) (by rfl) (w.heap.size + 1) k U1.heap.size _ _ ((u + v) % 2130706433) (by rfl) (by rfl) IB.out CB.out (by omega) LB.out ?b6)
        case b6 =>
          intro v7 w7 hg7 k7
          have HI7 := hik (hg7.congr (rvl_next G P I k ((u + v) % 2130706433) EV.out))
          have KZ := hik (KQ.out.near k7 (fun i q => by have q : w.heap.size + 1 ≤ i := q; omega))
          have X7 := hik (k7.seeP XB.out (fun q => by have q : w.heap.size + 1 ≤ w.heap.size := q; omega))
          have L7 := hik (Nat.le_trans LB.out k7.size)
          clear hg7 k7 IB CB LB KQ XB
          go_wp2
          go_roundw
          case rel => exact ⟨k + 1, by omega, by go_num, by rw [HS2.out, if_neg (by omega)]; go_num, by rw [HS1.out, if_neg (by omega)]; go_num, HI7, KZ, X7, L7⟩
          case measure => simp [intOf]; omega
      by_cases e5 : (G k).1 = 5
      · rw [e5] at c0
        have qa := QA.out (by omega)
        have qb := QB.out (by omega)
        rw [EA.out] at qa
        rw [EB.out] at qb
        obtain ⟨an, rfl⟩ : ∃ an : Nat, ga = (an : Int) := ⟨ga.toNat, by omega⟩
        obtain ⟨bn, rfl⟩ : ∃ bn : Nat, gb = (bn : Int) := ⟨gb.toNat, by omega⟩
        have han : an < k := by omega
        have hbn : bn < k := by omega
        obtain ⟨yb, yo, rfl, hyb, d0⟩ := HRS.out an han
        obtain ⟨yb', yo', ee, _, f0⟩ := HRS.out bn hbn
        cases ee
        have d0 : wi.cell? ⟨yb, yo + an, none⟩ = some (.int .i64 (rvl G P I k an)) := d0
        have f0 : wi.cell? ⟨yb, yo + bn, none⟩ = some (.int .i64 (rvl G P I k bn)) := f0
        have fu := HVk.out an han
        have fv := HVk.out bn hbn
        have EAN := hik (show ((an : Int)).toNat = an by omega)
        have EBN := hik (show ((bn : Int)).toNat = bn by omega)
        have EZ := hik (show ((rvl G P I k an + 2130706433 - rvl G P I k bn) % 2130706433) = rvk G P I k (rvl G P I k) from by unfold rvk; rw [if_neg e1, if_neg e2, if_neg e3, if_neg e4, if_pos e5, EA.out, EB.out, EAN.out, EBN.out])
        have ia : (an : Int) < k := by omega
        have ib : (bn : Int) < k := by omega
        have KA := hik ((Chg.refl nob wi).alloc (.cells #[.int .i64 5, .int .i64 (an : Int), .int .i64 (bn : Int), .int .i64 gk] 51))
        have IA := hik (HI.out.keep KA.out)
        have KKA := hik (HK.out.trans KA.out)
        have XA := hik (KA.out.look HX.out)
        have LA := hik (show w.heap.size + 1 ≤ (wi.alloc (.cells #[.int .i64 5, .int .i64 (an : Int), .int .i64 (bn : Int), .int .i64 gk] 51)).heap.size from Nat.le_trans HL.out KA.out.size)
        have d1 := KA.out.see d0
        have f1 := KA.out.see f0
        have g1 : World.cell? (wi.alloc (.cells #[.int .i64 5, .int .i64 (an : Int), .int .i64 (bn : Int), .int .i64 gk] 51)) ⟨wi.heap.size, 1, none⟩ = some (.int .i64 (an : Int)) := by go_simp
        have g2 : World.cell? (wi.alloc (.cells #[.int .i64 5, .int .i64 (an : Int), .int .i64 (bn : Int), .int .i64 gk] 51)) ⟨wi.heap.size, 2, none⟩ = some (.int .i64 (bn : Int)) := by go_simp
        generalize rvl G P I k an = u at d0 d1 fu EZ
        generalize rvl G P I k bn = v at f0 f1 fv EZ
        clear d0 f0 HRS
        go_upto_region 22 with fail
        clear c0 c1 c2 c3 KA
        generalize wi.alloc (.cells #[.int .i64 5, .int .i64 (an : Int), .int .i64 (bn : Int), .int .i64 gk] 51) = W2 at IA KKA XA LA d1 f1 g1 g2 ⊢
        have KW := hik ((Chg.refl nob W2).drew1)
        have SA := hik (fun (WW : World) (kW : Chg nob W2 WW) => (show (WW.cell? ⟨wi.heap.size, 1, none⟩ = some (.int .i64 (an : Int)) ∧ WW.cell? ⟨wi.heap.size, 2, none⟩ = some (.int .i64 (bn : Int)) ∧ WW.cell? ⟨yb, yo + an, none⟩ = some (.int .i64 u) ∧ WW.cell? ⟨yb, yo + bn, none⟩ = some (.int .i64 v)) from ⟨kW.see g1, kW.see g2, kW.see d1, kW.see f1⟩))
        refine wp_region_held_drew (S := fun w' => w'.cell? ⟨wi.heap.size, 1, none⟩ = some (.int .i64 (an : Int)) ∧ w'.cell? ⟨wi.heap.size, 2, none⟩ = some (.int .i64 (bn : Int)) ∧ w'.cell? ⟨yb, yo + an, none⟩ = some (.int .i64 u) ∧ w'.cell? ⟨yb, yo + bn, none⟩ = some (.int .i64 v)) (by kernel_rfl) ⟨g1, g2, d1, f1⟩ (fun hHeld => ?_)
        refine wpAnyH_take (i := 0) (v := ?_) rfl (by kernel_rfl) (by kernel_rfl) (by kernel_rfl) (fun _ _ _ h => h) (Or.inl ⟨by rfl, ?_⟩) (by assumption) ?_
        rotate_left 1
        · (intro w' hSw; (try dsimp only at hSw); go_simp; try with_reducible rfl)
        try simp only [Act.put, List.setIfInBounds_toArray, List.set_cons_zero, List.set_cons_succ, List.getElem_toArray, List.getElem_cons_zero, List.getElem_cons_succ]
        refine wpAnyH_take (i := 1) (v := ?_) rfl (by kernel_rfl) (by kernel_rfl) (by kernel_rfl) (fun _ _ _ h => h) (Or.inl ⟨by rfl, ?_⟩) (by assumption) ?_
        rotate_left 1
        · (intro w' hSw; (try dsimp only at hSw); go_simp; try with_reducible rfl)
        try simp only [Act.put, List.setIfInBounds_toArray, List.set_cons_zero, List.set_cons_succ, List.getElem_toArray, List.getElem_cons_zero, List.getElem_cons_succ]
        refine wpAnyH_take (i := 2) (v := ?_) rfl (by kernel_rfl) (by kernel_rfl) (by kernel_rfl) (fun _ _ _ h => h) (Or.inl ⟨by rfl, ?_⟩) (by assumption) ?_
        rotate_left 1
        · (intro w' hSw; (try dsimp only at hSw); go_simp; try with_reducible rfl)
        try simp only [Act.put, List.setIfInBounds_toArray, List.set_cons_zero, List.set_cons_succ, List.getElem_toArray, List.getElem_cons_zero, List.getElem_cons_succ]
        refine wpAnyH_take (i := 3) (v := ?_) rfl (by kernel_rfl) (by kernel_rfl) (by kernel_rfl) (fun _ _ _ h => h) (Or.inl ⟨by rfl, ?_⟩) (by assumption) ?_
        rotate_left 1
        · (intro w' hSw; (try dsimp only at hSw); go_simp; try with_reducible rfl)
        try simp only [Act.put, List.setIfInBounds_toArray, List.set_cons_zero, List.set_cons_succ, List.getElem_toArray, List.getElem_cons_zero, List.getElem_cons_succ]
        refine wpAnyH_take (i := 4) (v := ?_) rfl (by kernel_rfl) (by kernel_rfl) (by kernel_rfl) (fun _ _ _ h => h) (Or.inl ⟨by rfl, ?_⟩) (by assumption) ?_
        rotate_left 1
        · (intro w' hSw; (try dsimp only at hSw); go_simp; try with_reducible rfl)
        try simp only [Act.put, List.setIfInBounds_toArray, List.set_cons_zero, List.set_cons_succ, List.getElem_toArray, List.getElem_cons_zero, List.getElem_cons_succ]
        refine wpAnyH_take (i := 5) (v := ?_) rfl (by kernel_rfl) (by kernel_rfl) (by kernel_rfl) (fun _ _ _ h => h) (Or.inl ⟨by rfl, ?_⟩) (by assumption) ?_
        rotate_left 1
        · (intro w' hSw; (try dsimp only at hSw); go_simp; try with_reducible rfl)
        try simp only [Act.put, List.setIfInBounds_toArray, List.set_cons_zero, List.set_cons_succ, List.getElem_toArray, List.getElem_cons_zero, List.getElem_cons_succ]
        refine wpAnyH_take (i := 6) (v := ?_) rfl (by kernel_rfl) (by kernel_rfl) (by kernel_rfl) (fun _ _ _ h => h) (Or.inl ⟨by rfl, ?_⟩) (by assumption) ?_
        rotate_left 1
        · (intro w' hSw; (try dsimp only at hSw); go_simp; try with_reducible rfl)
        try simp only [Act.put, List.setIfInBounds_toArray, List.set_cons_zero, List.set_cons_succ, List.getElem_toArray, List.getElem_cons_zero, List.getElem_cons_succ]
        refine wpAnyH_take (i := 7) (v := ?_) rfl (by kernel_rfl) (by kernel_rfl) (by kernel_rfl) (fun _ _ _ h => h) (Or.inl ⟨by rfl, ?_⟩) (by assumption) ?_
        rotate_left 1
        · (intro w' hSw; (try dsimp only at hSw); go_simp; try with_reducible rfl)
        try simp only [Act.put, List.setIfInBounds_toArray, List.set_cons_zero, List.set_cons_succ, List.getElem_toArray, List.getElem_cons_zero, List.getElem_cons_succ]
        refine wpAnyH_take (i := 8) (v := ?_) rfl (by kernel_rfl) (by kernel_rfl) (by kernel_rfl) (fun _ _ _ h => h) (Or.inl ⟨by rfl, ?_⟩) (by assumption) ?_
        rotate_left 1
        · (intro w' hSw; (try dsimp only at hSw); go_simp; try with_reducible rfl)
        try simp only [Act.put, List.setIfInBounds_toArray, List.set_cons_zero, List.set_cons_succ, List.getElem_toArray, List.getElem_cons_zero, List.getElem_cons_succ]
        refine wpAnyH_take (i := 9) (v := ?_) rfl (by kernel_rfl) (by kernel_rfl) (by kernel_rfl) (fun _ _ _ h => h) (Or.inl ⟨by rfl, ?_⟩) (by assumption) ?_
        rotate_left 1
        · (intro w' hSw; (try dsimp only at hSw); go_simp; try with_reducible rfl)
        try simp only [Act.put, List.setIfInBounds_toArray, List.set_cons_zero, List.set_cons_succ, List.getElem_toArray, List.getElem_cons_zero, List.getElem_cons_succ]
        refine wpAnyH_ready (rs := [10]) (by kernel_rfl) (by simp) ?_
        refine AllReadyH.cons rfl (fun K hK => ?_) AllReadyH.nil
        refine stepL_callN 84 #[.tmp 72, .tmp 77] #[3, 3] (by rfl) (by rfl) #[.int .i64 u, .int .i64 v] (by simp only [List.map_toArray, List.map_cons, List.map_nil] <;> rfl) (run_go Tryd.func84 (by kernel_rfl) (by kernel_rfl) _ _) (sub11_c u v _ fu fv) ?_
        rintro e U1 ⟨he, kk⟩
        refine ⟨_, he, ?_⟩
        replace KW := hik (KW.out.trans kk)
        refine hK.out _ _ (SA.out _ KW.out) (fun hHeld => ?_)
        clear hK K
        try simp only [Act.put, List.setIfInBounds_toArray, List.set_cons_zero, List.set_cons_succ, List.getElem_toArray, List.getElem_cons_zero, List.getElem_cons_succ]
        clear he kk
        refine wpAnyH_take (i := 11) (v := ?_) rfl (by kernel_rfl) (by kernel_rfl) (by kernel_rfl) (fun _ _ _ h => h) (Or.inl ⟨by rfl, ?_⟩) (by assumption) ?_
        rotate_left 1
        · (intro w' hSw; (try dsimp only at hSw); go_simp; try with_reducible rfl)
        try simp only [Act.put, List.setIfInBounds_toArray, List.set_cons_zero, List.set_cons_succ, List.getElem_toArray, List.getElem_cons_zero, List.getElem_cons_succ]
        refine wpAnyH_done (by kernel_rfl) ?_ _
        replace IA := hik (IA.out.keep KW.out)
        replace KKA := hik (KKA.out.trans KW.out)
        replace XA := hik (KW.out.look XA.out)
        replace LA := hik (Nat.le_trans LA.out KW.out.size)
        clear SA KW hHeld d1 f1 g1 g2
        have EV := hik (show ((u + 2130706433 - v) % 2130706433) = rvk G P I k (rvl G P I k) from EZ.out)
        have IB := hik (IA.out.keep ((Chg.refl nob U1).alloc (.cells #[.int .i64 ((u + 2130706433 - v) % 2130706433)] 3)))
        have CB := hik (show World.cell? (U1.alloc (.cells #[.int .i64 ((u + 2130706433 - v) % 2130706433)] 3)) ⟨U1.heap.size, 0, none⟩ = some (.int .i64 ((u + 2130706433 - v) % 2130706433)) by go_simp)
        have LB := hik (show w.heap.size + 1 ≤ (U1.alloc (.cells #[.int .i64 ((u + 2130706433 - v) % 2130706433)] 3)).heap.size from Nat.le_trans LA.out ((Chg.refl nob U1).alloc (.cells #[.int .i64 ((u + 2130706433 - v) % 2130706433)] 3)).size)
        have KQ := hik (KKA.out.alloc (.cells #[.int .i64 ((u + 2130706433 - v) % 2130706433)] 3))
        have XB := hik (((Chg.refl nob U1).alloc (.cells #[.int .i64 ((u + 2130706433 - v) % 2130706433)] 3)).look XA.out)
        go_wp2_with (at_builtin; refine wpList_app1 (by rfl) (.tmp 92) (.tmp 94) (by rfl) (w.heap.size + 1) k U1.heap.size _ _ ((u + 2130706433 - v) % 2130706433) (by rfl) (by rfl) IB.out CB.out (by omega) LB.out ?b6)
        case b6 =>
          intro v7 w7 hg7 k7
          have HI7 := hik (hg7.congr (rvl_next G P I k ((u + 2130706433 - v) % 2130706433) EV.out))
          have KZ := hik (KQ.out.near k7 (fun i q => by have q : w.heap.size + 1 ≤ i := q; omega))
          have X7 := hik (k7.seeP XB.out (fun q => by have q : w.heap.size + 1 ≤ w.heap.size := q; omega))
          have L7 := hik (Nat.le_trans LB.out k7.size)
          clear hg7 k7 IB CB LB KQ XB
          go_wp2
          go_roundw
          case rel => exact ⟨k + 1, by omega, by go_num, by rw [HS2.out, if_neg (by omega)]; go_num, by rw [HS1.out, if_neg (by omega)]; go_num, HI7, KZ, X7, L7⟩
          case measure => simp [intOf]; omega
      by_cases e6 : (G k).1 = 6
      · rw [e6] at c0
        have qa := QA.out (by omega)
        have qb := QB.out (by omega)
        rw [EA.out] at qa
        rw [EB.out] at qb
        obtain ⟨an, rfl⟩ : ∃ an : Nat, ga = (an : Int) := ⟨ga.toNat, by omega⟩
        obtain ⟨bn, rfl⟩ : ∃ bn : Nat, gb = (bn : Int) := ⟨gb.toNat, by omega⟩
        have han : an < k := by omega
        have hbn : bn < k := by omega
        obtain ⟨yb, yo, rfl, hyb, d0⟩ := HRS.out an han
        obtain ⟨yb', yo', ee, _, f0⟩ := HRS.out bn hbn
        cases ee
        have d0 : wi.cell? ⟨yb, yo + an, none⟩ = some (.int .i64 (rvl G P I k an)) := d0
        have f0 : wi.cell? ⟨yb, yo + bn, none⟩ = some (.int .i64 (rvl G P I k bn)) := f0
        have fu := HVk.out an han
        have fv := HVk.out bn hbn
        have EAN := hik (show ((an : Int)).toNat = an by omega)
        have EBN := hik (show ((bn : Int)).toNat = bn by omega)
        have EZ := hik (show (rvl G P I k an * rvl G P I k bn % 2130706433) = rvk G P I k (rvl G P I k) from by unfold rvk; rw [if_neg e1, if_neg e2, if_neg e3, if_neg e4, if_neg e5, if_pos e6, EA.out, EB.out, EAN.out, EBN.out])
        have ia : (an : Int) < k := by omega
        have ib : (bn : Int) < k := by omega
        have KA := hik ((Chg.refl nob wi).alloc (.cells #[.int .i64 6, .int .i64 (an : Int), .int .i64 (bn : Int), .int .i64 gk] 51))
        have IA := hik (HI.out.keep KA.out)
        have KKA := hik (HK.out.trans KA.out)
        have XA := hik (KA.out.look HX.out)
        have LA := hik (show w.heap.size + 1 ≤ (wi.alloc (.cells #[.int .i64 6, .int .i64 (an : Int), .int .i64 (bn : Int), .int .i64 gk] 51)).heap.size from Nat.le_trans HL.out KA.out.size)
        have d1 := KA.out.see d0
        have f1 := KA.out.see f0
        have g1 : World.cell? (wi.alloc (.cells #[.int .i64 6, .int .i64 (an : Int), .int .i64 (bn : Int), .int .i64 gk] 51)) ⟨wi.heap.size, 1, none⟩ = some (.int .i64 (an : Int)) := by go_simp
        have g2 : World.cell? (wi.alloc (.cells #[.int .i64 6, .int .i64 (an : Int), .int .i64 (bn : Int), .int .i64 gk] 51)) ⟨wi.heap.size, 2, none⟩ = some (.int .i64 (bn : Int)) := by go_simp
        generalize rvl G P I k an = u at d0 d1 fu EZ
        generalize rvl G P I k bn = v at f0 f1 fv EZ
        clear d0 f0 HRS
        go_upto_region 24 with fail
        clear c0 c1 c2 c3 KA
        generalize wi.alloc (.cells #[.int .i64 6, .int .i64 (an : Int), .int .i64 (bn : Int), .int .i64 gk] 51) = W2 at IA KKA XA LA d1 f1 g1 g2 ⊢
        have KW := hik ((Chg.refl nob W2).drew1)
        have SA := hik (fun (WW : World) (kW : Chg nob W2 WW) => (show (WW.cell? ⟨wi.heap.size, 1, none⟩ = some (.int .i64 (an : Int)) ∧ WW.cell? ⟨wi.heap.size, 2, none⟩ = some (.int .i64 (bn : Int)) ∧ WW.cell? ⟨yb, yo + an, none⟩ = some (.int .i64 u) ∧ WW.cell? ⟨yb, yo + bn, none⟩ = some (.int .i64 v)) from ⟨kW.see g1, kW.see g2, kW.see d1, kW.see f1⟩))
        refine wp_region_held_drew (S := fun w' => w'.cell? ⟨wi.heap.size, 1, none⟩ = some (.int .i64 (an : Int)) ∧ w'.cell? ⟨wi.heap.size, 2, none⟩ = some (.int .i64 (bn : Int)) ∧ w'.cell? ⟨yb, yo + an, none⟩ = some (.int .i64 u) ∧ w'.cell? ⟨yb, yo + bn, none⟩ = some (.int .i64 v)) (by kernel_rfl) ⟨g1, g2, d1, f1⟩ (fun hHeld => ?_)
        refine wpAnyH_take (i := 0) (v := ?_) rfl (by kernel_rfl) (by kernel_rfl) (by kernel_rfl) (fun _ _ _ h => h) (Or.inl ⟨by rfl, ?_⟩) (by assumption) ?_
        rotate_left 1
        · (intro w' hSw; (try dsimp only at hSw); go_simp; try with_reducible rfl)
        try simp only [Act.put, List.setIfInBounds_toArray, List.set_cons_zero, List.set_cons_succ, List.getElem_toArray, List.getElem_cons_zero, List.getElem_cons_succ]
        refine wpAnyH_take (i := 1) (v := ?_) rfl (by kernel_rfl) (by kernel_rfl) (by kernel_rfl) (fun _ _ _ h => h) (Or.inl ⟨by rfl, ?_⟩) (by assumption) ?_
        rotate_left 1
        · (intro w' hSw; (try dsimp only at hSw); go_simp; try with_reducible rfl)
        try simp only [Act.put, List.setIfInBounds_toArray, List.set_cons_zero, List.set_cons_succ, List.getElem_toArray, List.getElem_cons_zero, List.getElem_cons_succ]
        refine wpAnyH_take (i := 2) (v := ?_) rfl (by kernel_rfl) (by kernel_rfl) (by kernel_rfl) (fun _ _ _ h => h) (Or.inl ⟨by rfl, ?_⟩) (by assumption) ?_
        rotate_left 1
        · (intro w' hSw; (try dsimp only at hSw); go_simp; try with_reducible rfl)
        try simp only [Act.put, List.setIfInBounds_toArray, List.set_cons_zero, List.set_cons_succ, List.getElem_toArray, List.getElem_cons_zero, List.getElem_cons_succ]
        refine wpAnyH_take (i := 3) (v := ?_) rfl (by kernel_rfl) (by kernel_rfl) (by kernel_rfl) (fun _ _ _ h => h) (Or.inl ⟨by rfl, ?_⟩) (by assumption) ?_
        rotate_left 1
        · (intro w' hSw; (try dsimp only at hSw); go_simp; try with_reducible rfl)
        try simp only [Act.put, List.setIfInBounds_toArray, List.set_cons_zero, List.set_cons_succ, List.getElem_toArray, List.getElem_cons_zero, List.getElem_cons_succ]
        refine wpAnyH_take (i := 4) (v := ?_) rfl (by kernel_rfl) (by kernel_rfl) (by kernel_rfl) (fun _ _ _ h => h) (Or.inl ⟨by rfl, ?_⟩) (by assumption) ?_
        rotate_left 1
        · (intro w' hSw; (try dsimp only at hSw); go_simp; try with_reducible rfl)
        try simp only [Act.put, List.setIfInBounds_toArray, List.set_cons_zero, List.set_cons_succ, List.getElem_toArray, List.getElem_cons_zero, List.getElem_cons_succ]
        refine wpAnyH_take (i := 5) (v := ?_) rfl (by kernel_rfl) (by kernel_rfl) (by kernel_rfl) (fun _ _ _ h => h) (Or.inl ⟨by rfl, ?_⟩) (by assumption) ?_
        rotate_left 1
        · (intro w' hSw; (try dsimp only at hSw); go_simp; try with_reducible rfl)
        try simp only [Act.put, List.setIfInBounds_toArray, List.set_cons_zero, List.set_cons_succ, List.getElem_toArray, List.getElem_cons_zero, List.getElem_cons_succ]
        refine wpAnyH_take (i := 6) (v := ?_) rfl (by kernel_rfl) (by kernel_rfl) (by kernel_rfl) (fun _ _ _ h => h) (Or.inl ⟨by rfl, ?_⟩) (by assumption) ?_
        rotate_left 1
        · (intro w' hSw; (try dsimp only at hSw); go_simp; try with_reducible rfl)
        try simp only [Act.put, List.setIfInBounds_toArray, List.set_cons_zero, List.set_cons_succ, List.getElem_toArray, List.getElem_cons_zero, List.getElem_cons_succ]
        refine wpAnyH_take (i := 7) (v := ?_) rfl (by kernel_rfl) (by kernel_rfl) (by kernel_rfl) (fun _ _ _ h => h) (Or.inl ⟨by rfl, ?_⟩) (by assumption) ?_
        rotate_left 1
        · (intro w' hSw; (try dsimp only at hSw); go_simp; try with_reducible rfl)
        try simp only [Act.put, List.setIfInBounds_toArray, List.set_cons_zero, List.set_cons_succ, List.getElem_toArray, List.getElem_cons_zero, List.getElem_cons_succ]
        refine wpAnyH_take (i := 8) (v := ?_) rfl (by kernel_rfl) (by kernel_rfl) (by kernel_rfl) (fun _ _ _ h => h) (Or.inl ⟨by rfl, ?_⟩) (by assumption) ?_
        rotate_left 1
        · (intro w' hSw; (try dsimp only at hSw); go_simp; try with_reducible rfl)
        try simp only [Act.put, List.setIfInBounds_toArray, List.set_cons_zero, List.set_cons_succ, List.getElem_toArray, List.getElem_cons_zero, List.getElem_cons_succ]
        refine wpAnyH_take (i := 9) (v := ?_) rfl (by kernel_rfl) (by kernel_rfl) (by kernel_rfl) (fun _ _ _ h => h) (Or.inl ⟨by rfl, ?_⟩) (by assumption) ?_
        rotate_left 1
        · (intro w' hSw; (try dsimp only at hSw); go_simp; try with_reducible rfl)
        try simp only [Act.put, List.setIfInBounds_toArray, List.set_cons_zero, List.set_cons_succ, List.getElem_toArray, List.getElem_cons_zero, List.getElem_cons_succ]
        refine wpAnyH_ready (rs := [10]) (by kernel_rfl) (by simp) ?_
        refine AllReadyH.cons rfl (fun K hK => ?_) AllReadyH.nil
        refine stepL_callN 85 #[.tmp 85, .tmp 90] #[3, 3] (by rfl) (by rfl) #[.int .i64 u, .int .i64 v] (by simp only [List.map_toArray, List.map_cons, List.map_nil] <;> rfl) (run_go Tryd.func85 (by kernel_rfl) (by kernel_rfl) _ _) (mul11_c u v _ fu fv) ?_
        rintro e U1 ⟨he, kk⟩
        refine ⟨_, he, ?_⟩
        replace KW := hik (KW.out.trans kk)
        refine hK.out _ _ (SA.out _ KW.out) (fun hHeld => ?_)
        clear hK K
        try simp only [Act.put, List.setIfInBounds_toArray, List.set_cons_zero, List.set_cons_succ, List.getElem_toArray, List.getElem_cons_zero, List.getElem_cons_succ]
        clear he kk
        refine wpAnyH_take (i := 11) (v := ?_) rfl (by kernel_rfl) (by kernel_rfl) (by kernel_rfl) (fun _ _ _ h => h) (Or.inl ⟨by rfl, ?_⟩) (by assumption) ?_
        rotate_left 1
        · (intro w' hSw; (try dsimp only at hSw); go_simp; try with_reducible rfl)
        try simp only [Act.put, List.setIfInBounds_toArray, List.set_cons_zero, List.set_cons_succ, List.getElem_toArray, List.getElem_cons_zero, List.getElem_cons_succ]
        refine wpAnyH_done (by kernel_rfl) ?_ _
        replace IA := hik (IA.out.keep KW.out)
        replace KKA := hik (KKA.out.trans KW.out)
        replace XA := hik (KW.out.look XA.out)
        replace LA := hik (Nat.le_trans LA.out KW.out.size)
        clear SA KW hHeld d1 f1 g1 g2
        have EV := hik (show (u * v % 2130706433) = rvk G P I k (rvl G P I k) from EZ.out)
        have IB := hik (IA.out.keep ((Chg.refl nob U1).alloc (.cells #[.int .i64 (u * v % 2130706433)] 3)))
        have CB := hik (show World.cell? (U1.alloc (.cells #[.int .i64 (u * v % 2130706433)] 3)) ⟨U1.heap.size, 0, none⟩ = some (.int .i64 (u * v % 2130706433)) by go_simp)
        have LB := hik (show w.heap.size + 1 ≤ (U1.alloc (.cells #[.int .i64 (u * v % 2130706433)] 3)).heap.size from Nat.le_trans LA.out ((Chg.refl nob U1).alloc (.cells #[.int .i64 (u * v % 2130706433)] 3)).size)
        have KQ := hik (KKA.out.alloc (.cells #[.int .i64 (u * v % 2130706433)] 3))
        have XB := hik (((Chg.refl nob U1).alloc (.cells #[.int .i64 (u * v % 2130706433)] 3)).look XA.out)
        go_wp2_with (at_builtin; refine wpList_app1 (by rfl) (.tmp 92) (.tmp 94) (by rfl) (w.heap.size + 1) k U1.heap.size _ _ (u * v % 2130706433) (by rfl) (by rfl) IB.out CB.out (by omega) LB.out ?b6)
        case b6 =>
          intro v7 w7 hg7 k7
          have HI7 := hik (hg7.congr (rvl_next G P I k (u * v % 2130706433) EV.out))
          have KZ := hik (KQ.out.near k7 (fun i q => by have q : w.heap.size + 1 ≤ i := q; omega))
          have X7 := hik (k7.seeP XB.out (fun q => by have q : w.heap.size + 1 ≤ w.heap.size := q; omega))
          have L7 := hik (Nat.le_trans LB.out k7.size)
          clear hg7 k7 IB CB LB KQ XB
          go_wp2
          go_roundw
          case rel => exact ⟨k + 1, by omega, by go_num, by rw [HS2.out, if_neg (by omega)]; go_num, by rw [HS1.out, if_neg (by omega)]; go_num, HI7, KZ, X7, L7⟩
          case measure => simp [intOf]; omega
      have qa := QA.out (by have := HO.out; omega)
      rw [EA.out] at qa
      obtain ⟨an, rfl⟩ : ∃ an : Nat, ga = (an : Int) := ⟨ga.toNat, by omega⟩
      have han : an < k := by omega
      obtain ⟨yb, yo, rfl, hyb, d0⟩ := HRS.out an han
      have d0 : wi.cell? ⟨yb, yo + an, none⟩ = some (.int .i64 (rvl G P I k an)) := d0
      have EAN := hik (show ((an : Int)).toNat = an by omega)
      have EZ := hik (show rvl G P I k an = rvk G P I k (rvl G P I k) by unfold rvk; rw [if_neg e1, if_neg e2, if_neg e3, if_neg e4, if_neg e5, if_neg e6, EA.out, EAN.out])
      have ia : (an : Int) < k := by omega
      have HOP := hik (And.intro e1 e2)
      generalize hop : (G k).1 = op9 at c0 e1 e2 e3 e4 e5 e6 HS1 HS2
      clear hop L1 L2 QA QB HO
      have KA := hik ((Chg.refl nob wi).alloc (.cells #[.int .i64 op9, .int .i64 (an : Int), .int .i64 gb, .int .i64 gk] 51))
      have IA := hik (HI.out.keep KA.out)
      have KKA := hik (HK.out.trans KA.out)
      have XA := hik (KA.out.look HX.out)
      have LA := hik (show w.heap.size + 1 ≤ (wi.alloc (.cells #[.int .i64 op9, .int .i64 (an : Int), .int .i64 gb, .int .i64 gk] 51)).heap.size from Nat.le_trans HL.out KA.out.size)
      have d1 := KA.out.see d0
      generalize rvl G P I k an = z at d0 d1 EZ
      clear d0
      go_upto_region 25 with fail
      clear c0 c1 c2 c3 d1
      generalize wi.alloc (.cells #[.int .i64 op9, .int .i64 (an : Int), .int .i64 gb, .int .i64 gk] 51) = W2 at KA IA KKA XA LA ⊢
      clear KA
      have EV := hik (show z = rvk G P I k (rvl G P I k) from EZ.out)
      have IB := hik (IA.out.keep ((Chg.refl nob W2).alloc (.cells #[.int .i64 z] 3)))
      have CB := hik (show World.cell? (W2.alloc (.cells #[.int .i64 z] 3)) ⟨W2.heap.size, 0, none⟩ = some (.int .i64 z) by go_simp)
      have LB := hik (show w.heap.size + 1 ≤ (W2.alloc (.cells #[.int .i64 z] 3)).heap.size from Nat.le_trans LA.out ((Chg.refl nob W2).alloc (.cells #[.int .i64 z] 3)).size)
      have KQ := hik (KKA.out.alloc (.cells #[.int .i64 z] 3))
      have XB := hik (((Chg.refl nob W2).alloc (.cells #[.int .i64 z] 3)).look XA.out)
      go_wp2_with (at_builtin; refine wpList_app1 (by rfl) (.tmp 92) (.tmp 94) (by rfl) (w.heap.size + 1) k W2.heap.size _ _ z (by rfl) (by rfl) IB.out CB.out (by omega) LB.out ?b6)
      case b6 =>
        intro v7 w7 hg7 k7
        have HI7 := hik (hg7.congr (rvl_next G P I k z EV.out))
        have KZ := hik (KQ.out.near k7 (fun i q => by have q : w.heap.size + 1 ≤ i := q; omega))
        have X7 := hik (k7.seeP XB.out (fun q => by have q : w.heap.size + 1 ≤ w.heap.size := q; omega))
        have L7 := hik (Nat.le_trans LB.out k7.size)
        clear hg7 k7 IB CB LB KQ XB
        go_wp2
        go_roundw
        case rel => exact ⟨k + 1, by omega, by go_num, by rw [HS2.out, if_neg e2]; go_num, by rw [HS1.out, if_neg e1]; go_num, HI7, KZ, X7, L7⟩
        case measure => simp [intOf]; omega
    · obtain rfl : k = n := by omega
      go_wp2
      go_ret
      exact ⟨_, rfl, HI.out.lower (by omega), HK.out⟩

set_option maxHeartbeats 8000000 in
theorem sFits11_any (c : Option Addr) (n cap : Nat) (G : Nat → Gt) (cs : Option Addr) (caps : Nat) (V : Nat → Int) (w : World) (hv : Hid (GatV w c n G)) (hs : Hid (RowV w cs n (iv V))) (h15 : n ≤ 15) (hg : Hid (∀ i, i < n → gtb i (G i) = true)) :
    Calls Tryd.prog 48 #[.agg #[.slice c n cap], .slice cs n caps] w fun e w' => e = .returned (.bool (fts G V n)) ∧ Chg nob w w' := by
  have KB := hik ((Chg.refl nob w).alloc (.cells #[.slice c n cap] 33))
  have X0 := hik (show World.cell? (w.alloc (.cells #[.slice c n cap] 33)) ⟨w.heap.size, 0, none⟩ = some (.slice c n cap) by go_simp)
  go_enter Tryd.func48, Tryd.ntmps48
  go_wp2
  go_loopw [5] (fun i W => ∃ k : Nat, k ≤ n ∧ i = .int .i64 k ∧ Hid (fts G V k = true) ∧ Hid (Chg nob w W) ∧ Hid (W.cell? ⟨w.heap.size, 0, none⟩ = some (.slice c n cap))) (fun i _ => n - (intOf i).toNat)
  case atStart => exact ⟨0, Nat.zero_le _, rfl, hik rfl, KB, X0⟩
  case round =>
    clear KB X0
    obtain ⟨k, hk, rfl, HF, HK, HX⟩ := hrel
    rename World => wi
    have x0 := HX.out
    by_cases hlt : k < n
    · have hkn : ((k : Nat) : Int) < n := by omega
      obtain ⟨xb, xo, rfl, hxb, c0, c1, c2, c3⟩ := (hv.out.keep HK.out) k hlt
      have GK := hik (hg.out k hlt)
      have HST := hik (fts_s G V k)
      have HO := hik (gtb_op GK.out)
      have HD := hik (show ftk G V k = if (G k).1 = 7 then decide (V (G k).2.1.toNat = V (G k).2.2.1.toNat) else if (G k).1 = 8 then decide (V (G k).2.1.toNat ≤ 1) else true from rfl)
      have HNO := hik (fun (q : ftk G V k = false) => fts_no hlt q)
      have QA := hik (fun (q : 4 ≤ (G k).1) => gtb_A GK.out q)
      have QB := hik (fun (q : 4 ≤ (G k).1 ∧ (G k).1 ≤ 7) => gtb_B GK.out q)
      generalize hga : (G k).2.1 = ga at c1 HD QA
      generalize hgb : (G k).2.2.1 = gb at c2 HD QB
      generalize (G k).2.2.2 = gk at c3
      clear hga hgb
      generalize (G k).1 = op9 at c0 HO HD QA QB
      by_cases e7 : op9 = 7
      · subst e7
        have qa := QA.out (by omega)
        have qb := QB.out (by omega)
        obtain ⟨an, rfl⟩ : ∃ an : Nat, ga = (an : Int) := ⟨ga.toNat, by omega⟩
        obtain ⟨bn, rfl⟩ : ∃ bn : Nat, gb = (bn : Int) := ⟨gb.toNat, by omega⟩
        obtain ⟨yb, yo, rfl, hyb, d0⟩ := (hs.out.keep HK.out) an (by omega)
        obtain ⟨yb', yo', ee, _, f0⟩ := (hs.out.keep HK.out) bn (by omega)
        cases ee
        have d0 : wi.cell? ⟨yb, yo + an, none⟩ = some (.int .i64 (V an)) := d0
        have f0 : wi.cell? ⟨yb, yo + bn, none⟩ = some (.int .i64 (V bn)) := f0
        replace HD := hik (show (ftk G V k = true ↔ V an = V bn) by rw [HD.out, if_pos rfl, Int.toNat_natCast, Int.toNat_natCast]; simp)
        have ia : (an : Int) < n := by omega
        have ib : (bn : Int) < n := by omega
        generalize V an = u at d0 HD
        generalize V bn = v at f0 HD
        by_cases huv : u = v
        · subst huv
          have hne : (u != u) = false := by simp
          have KA := hik ((Chg.refl nob wi).alloc (.cells #[.int .i64 7, .int .i64 (an : Int), .int .i64 (bn : Int), .int .i64 gk] 51))
          have KKA := hik (HK.out.trans KA.out)
          have XA := hik (KA.out.look HX.out)
          have g0 : World.cell? (wi.alloc (.cells #[.int .i64 7, .int .i64 (an : Int), .int .i64 (bn : Int), .int .i64 gk] 51)) ⟨wi.heap.size, 0, none⟩ = some (.int .i64 7) := by go_simp
          have g1 : World.cell? (wi.alloc (.cells #[.int .i64 7, .int .i64 (an : Int), .int .i64 (bn : Int), .int .i64 gk] 51)) ⟨wi.heap.size, 1, none⟩ = some (.int .i64 (an : Int)) := by go_simp
          have g2 : World.cell? (wi.alloc (.cells #[.int .i64 7, .int .i64 (an : Int), .int .i64 (bn : Int), .int .i64 gk] 51)) ⟨wi.heap.size, 2, none⟩ = some (.int .i64 (bn : Int)) := by go_simp
          have d1 := KA.out.see d0
          have f1 := KA.out.see f0
          clear d0 f0
          go_upto_region 5 with fail
          clear c0 c1 c2 c3 KA x0
          generalize wi.alloc (.cells #[.int .i64 7, .int .i64 (an : Int), .int .i64 (bn : Int), .int .i64 gk] 51) = W2 at KKA XA g0 g1 g2 d1 f1 ⊢
          have KW := hik ((Chg.refl nob W2).drew1)
          have SA := hik (fun (WW : World) (kW : Chg nob W2 WW) => (show (WW.cell? ⟨wi.heap.size, 0, none⟩ = some (.int .i64 7) ∧ WW.cell? ⟨wi.heap.size, 1, none⟩ = some (.int .i64 (an : Int)) ∧ WW.cell? ⟨wi.heap.size, 2, none⟩ = some (.int .i64 (bn : Int)) ∧ WW.cell? ⟨yb, yo + an, none⟩ = some (.int .i64 u) ∧ WW.cell? ⟨yb, yo + bn, none⟩ = some (.int .i64 u)) from ⟨kW.see g0, kW.see g1, kW.see g2, kW.see d1, kW.see f1⟩))
          refine wp_region_held_drew (S := fun w' => w'.cell? ⟨wi.heap.size, 0, none⟩ = some (.int .i64 7) ∧ w'.cell? ⟨wi.heap.size, 1, none⟩ = some (.int .i64 (an : Int)) ∧ w'.cell? ⟨wi.heap.size, 2, none⟩ = some (.int .i64 (bn : Int)) ∧ w'.cell? ⟨yb, yo + an, none⟩ = some (.int .i64 u) ∧ w'.cell? ⟨yb, yo + bn, none⟩ = some (.int .i64 u)) (by kernel_rfl) ⟨g0, g1, g2, d1, f1⟩ (fun hHeld => ?_)
          refine wpAnyH_take (i := 0) (v := ?_) rfl (by kernel_rfl) (by kernel_rfl) (by kernel_rfl) (fun _ _ _ h => h) (Or.inl ⟨by rfl, ?_⟩) (by assumption) ?_
          rotate_left 1
          · (intro w' hSw; (try dsimp only at hSw); go_simp; try with_reducible rfl)
          try simp only [Act.put, List.setIfInBounds_toArray, List.set_cons_zero, List.set_cons_succ, List.getElem_toArray, List.getElem_cons_zero, List.getElem_cons_succ]
          refine wpAnyH_take (i := 1) (v := ?_) rfl (by kernel_rfl) (by kernel_rfl) (by kernel_rfl) (fun _ _ _ h => h) (Or.inl ⟨by rfl, ?_⟩) (by assumption) ?_
          rotate_left 1
          · (intro w' hSw; (try dsimp only at hSw); go_simp; try with_reducible rfl)
          try simp only [Act.put, List.setIfInBounds_toArray, List.set_cons_zero, List.set_cons_succ, List.getElem_toArray, List.getElem_cons_zero, List.getElem_cons_succ]
          refine wpAnyH_take (i := 2) (v := ?_) rfl (by kernel_rfl) (by kernel_rfl) (by kernel_rfl) (fun _ _ _ h => h) (Or.inl ⟨by rfl, ?_⟩) (by assumption) ?_
          rotate_left 1
          · (intro w' hSw; (try dsimp only at hSw); go_simp; try with_reducible rfl)
          try simp only [Act.put, List.setIfInBounds_toArray, List.set_cons_zero, List.set_cons_succ, List.getElem_toArray, List.getElem_cons_zero, List.getElem_cons_succ]
          refine wpAnyH_take (i := 3) (v := ?_) rfl (by kernel_rfl) (by kernel_rfl) (by kernel_rfl) (fun _ _ _ h => h) (Or.inl ⟨by rfl, ?_⟩) (by assumption) ?_
          rotate_left 1
          · (intro w' hSw; (try dsimp only at hSw); go_simp; try with_reducible rfl)
          try simp only [Act.put, List.setIfInBounds_toArray, List.set_cons_zero, List.set_cons_succ, List.getElem_toArray, List.getElem_cons_zero, List.getElem_cons_succ]
          refine wpAnyH_take (i := 4) (v := ?_) rfl (by kernel_rfl) (by kernel_rfl) (by kernel_rfl) (fun _ _ _ h => h) (Or.inl ⟨by rfl, ?_⟩) (by assumption) ?_
          rotate_left 1
          · (intro w' hSw; (try dsimp only at hSw); go_simp; try with_reducible rfl)
          try simp only [Act.put, List.setIfInBounds_toArray, List.set_cons_zero, List.set_cons_succ, List.getElem_toArray, List.getElem_cons_zero, List.getElem_cons_succ]
          refine wpAnyH_take (i := 5) (v := ?_) rfl (by kernel_rfl) (by kernel_rfl) (by kernel_rfl) (fun _ _ _ h => h) (Or.inl ⟨by rfl, ?_⟩) (by assumption) ?_
          rotate_left 1
          · (intro w' hSw; (try dsimp only at hSw); go_simp; try with_reducible rfl)
          try simp only [Act.put, List.setIfInBounds_toArray, List.set_cons_zero, List.set_cons_succ, List.getElem_toArray, List.getElem_cons_zero, List.getElem_cons_succ]
          refine wpAnyH_take (i := 6) (v := ?_) rfl (by kernel_rfl) (by kernel_rfl) (by kernel_rfl) (fun _ _ _ h => h) (Or.inl ⟨by rfl, ?_⟩) (by assumption) ?_
          rotate_left 1
          · (intro w' hSw; (try dsimp only at hSw); go_simp; try with_reducible rfl)
          try simp only [Act.put, List.setIfInBounds_toArray, List.set_cons_zero, List.set_cons_succ, List.getElem_toArray, List.getElem_cons_zero, List.getElem_cons_succ]
          refine wpAnyH_take (i := 7) (v := ?_) rfl (by kernel_rfl) (by kernel_rfl) (by kernel_rfl) (fun _ _ _ h => h) (Or.inl ⟨by rfl, ?_⟩) (by assumption) ?_
          rotate_left 1
          · (intro w' hSw; (try dsimp only at hSw); go_simp; try with_reducible rfl)
          try simp only [Act.put, List.setIfInBounds_toArray, List.set_cons_zero, List.set_cons_succ, List.getElem_toArray, List.getElem_cons_zero, List.getElem_cons_succ]
          refine wpAnyH_take (i := 8) (v := ?_) rfl (by kernel_rfl) (by kernel_rfl) (by kernel_rfl) (fun _ _ _ h => h) (Or.inl ⟨by rfl, ?_⟩) (by assumption) ?_
          rotate_left 1
          · (intro w' hSw; (try dsimp only at hSw); go_simp; try with_reducible rfl)
          try simp only [Act.put, List.setIfInBounds_toArray, List.set_cons_zero, List.set_cons_succ, List.getElem_toArray, List.getElem_cons_zero, List.getElem_cons_succ]
          refine wpAnyH_take (i := 9) (v := ?_) rfl (by kernel_rfl) (by kernel_rfl) (by kernel_rfl) (fun _ _ _ h => h) (Or.inl ⟨by rfl, ?_⟩) (by assumption) ?_
          rotate_left 1
          · (intro w' hSw; (try dsimp only at hSw); go_simp; try with_reducible rfl)
          try simp only [Act.put, List.setIfInBounds_toArray, List.set_cons_zero, List.set_cons_succ, List.getElem_toArray, List.getElem_cons_zero, List.getElem_cons_succ]
          refine wpAnyH_take (i := 10) (v := ?_) rfl (by kernel_rfl) (by kernel_rfl) (by kernel_rfl) (fun _ _ _ h => h) (Or.inl ⟨by rfl, ?_⟩) (by assumption) ?_
          rotate_left 1
          · (intro w' hSw; (try dsimp only at hSw); go_simp; try with_reducible rfl)
          try simp only [Act.put, List.setIfInBounds_toArray, List.set_cons_zero, List.set_cons_succ, List.getElem_toArray, List.getElem_cons_zero, List.getElem_cons_succ]
          refine wpAnyH_take (i := 11) (v := ?_) rfl (by kernel_rfl) (by kernel_rfl) (by kernel_rfl) (fun _ _ _ h => h) (Or.inl ⟨by rfl, ?_⟩) (by assumption) ?_
          rotate_left 1
          · (intro w' hSw; (try dsimp only at hSw); go_simp; try with_reducible rfl)
          try simp only [Act.put, List.setIfInBounds_toArray, List.set_cons_zero, List.set_cons_succ, List.getElem_toArray, List.getElem_cons_zero, List.getElem_cons_succ]
          refine wpAnyH_take (i := 12) (v := ?_) rfl (by kernel_rfl) (by kernel_rfl) (by kernel_rfl) (fun _ _ _ h => h) (Or.inl ⟨by rfl, ?_⟩) (by assumption) ?_
          rotate_left 1
          · (intro w' hSw; (try dsimp only at hSw); go_simp; try with_reducible rfl)
          try simp only [Act.put, List.setIfInBounds_toArray, List.set_cons_zero, List.set_cons_succ, List.getElem_toArray, List.getElem_cons_zero, List.getElem_cons_succ]
          refine wpAnyH_take (i := 13) (v := ?_) rfl (by kernel_rfl) (by kernel_rfl) (by kernel_rfl) (fun _ _ _ h => h) (Or.inl ⟨by rfl, ?_⟩) (by assumption) ?_
          rotate_left 1
          · (intro w' hSw; (try dsimp only at hSw); go_simp; try with_reducible rfl)
          try simp only [Act.put, List.setIfInBounds_toArray, List.set_cons_zero, List.set_cons_succ, List.getElem_toArray, List.getElem_cons_zero, List.getElem_cons_succ]
          refine wpAnyH_take (i := 14) (v := ?_) rfl (by kernel_rfl) (by kernel_rfl) (by kernel_rfl) (fun _ _ _ h => h) (Or.inl ⟨by rfl, ?_⟩) (by assumption) ?_
          rotate_left 1
          · (intro w' hSw; (try dsimp only at hSw); go_simp; try with_reducible rfl)
          try simp only [Act.put, List.setIfInBounds_toArray, List.set_cons_zero, List.set_cons_succ, List.getElem_toArray, List.getElem_cons_zero, List.getElem_cons_succ]
          refine wpAnyH_take (i := 15) (v := ?_) rfl (by kernel_rfl) (by kernel_rfl) (by kernel_rfl) (fun _ _ _ h => h) (Or.inl ⟨by rfl, ?_⟩) (by assumption) ?_
          rotate_left 1
          · (intro w' hSw; (try dsimp only at hSw); go_simp; try with_reducible rfl)
          try simp only [Act.put, List.setIfInBounds_toArray, List.set_cons_zero, List.set_cons_succ, List.getElem_toArray, List.getElem_cons_zero, List.getElem_cons_succ]
          refine wpAnyH_take (i := 16) (v := ?_) rfl (by kernel_rfl) (by kernel_rfl) (by kernel_rfl) (fun _ _ _ h => h) (Or.inl ⟨by rfl, ?_⟩) (by assumption) ?_
          rotate_left 1
          · (intro w' hSw; (try dsimp only at hSw); go_simp; try with_reducible rfl)
          try simp only [Act.put, List.setIfInBounds_toArray, List.set_cons_zero, List.set_cons_succ, List.getElem_toArray, List.getElem_cons_zero, List.getElem_cons_succ]
          refine wpAnyH_take (i := 17) (v := ?_) rfl (by kernel_rfl) (by kernel_rfl) (by kernel_rfl) (fun _ _ _ h => h) (Or.inl ⟨by rfl, ?_⟩) (by assumption) ?_
          rotate_left 1
          · (intro w' hSw; (try dsimp only at hSw); go_simp; try with_reducible rfl)
          try simp only [Act.put, List.setIfInBounds_toArray, List.set_cons_zero, List.set_cons_succ, List.getElem_toArray, List.getElem_cons_zero, List.getElem_cons_succ]
          refine wpAnyH_take (i := 18) (v := ?_) rfl (by kernel_rfl) (by kernel_rfl) (by kernel_rfl) (fun _ _ _ h => h) (Or.inl ⟨by rfl, ?_⟩) (by assumption) ?_
          rotate_left 1
          · (intro w' hSw; (try dsimp only at hSw); go_simp; try with_reducible rfl)
          try simp only [Act.put, List.setIfInBounds_toArray, List.set_cons_zero, List.set_cons_succ, List.getElem_toArray, List.getElem_cons_zero, List.getElem_cons_succ]
          refine wpAnyH_take (i := 19) (v := ?_) rfl (by kernel_rfl) (by kernel_rfl) (by kernel_rfl) (fun _ _ _ h => h) (Or.inl ⟨by rfl, ?_⟩) (by assumption) ?_
          rotate_left 1
          · (intro w' hSw; (try dsimp only at hSw); go_simp; try with_reducible rfl)
          try simp only [Act.put, List.setIfInBounds_toArray, List.set_cons_zero, List.set_cons_succ, List.getElem_toArray, List.getElem_cons_zero, List.getElem_cons_succ]
          refine wpAnyH_take (i := 20) (v := ?_) rfl (by kernel_rfl) (by kernel_rfl) (by kernel_rfl) (fun _ _ _ h => h) (Or.inl ⟨by rfl, ?_⟩) (by assumption) ?_
          rotate_left 1
          · (intro w' hSw; (try dsimp only at hSw); go_simp; try with_reducible rfl)
          try simp only [Act.put, List.setIfInBounds_toArray, List.set_cons_zero, List.set_cons_succ, List.getElem_toArray, List.getElem_cons_zero, List.getElem_cons_succ]
          refine wpAnyH_take (i := 21) (v := undef) rfl (by kernel_rfl) (by kernel_rfl) (by kernel_rfl) (fun _ _ _ h => h) (Or.inr ⟨by rfl, rfl⟩) (by assumption) ?_
          try simp only [Act.put, List.setIfInBounds_toArray, List.set_cons_zero, List.set_cons_succ, List.getElem_toArray, List.getElem_cons_zero, List.getElem_cons_succ]
          refine wpAnyH_take (i := 22) (v := undef) rfl (by kernel_rfl) (by kernel_rfl) (by kernel_rfl) (fun _ _ _ h => h) (Or.inr ⟨by rfl, rfl⟩) (by assumption) ?_
          try simp only [Act.put, List.setIfInBounds_toArray, List.set_cons_zero, List.set_cons_succ, List.getElem_toArray, List.getElem_cons_zero, List.getElem_cons_succ]
          refine wpAnyH_take (i := 23) (v := undef) rfl (by kernel_rfl) (by kernel_rfl) (by kernel_rfl) (fun _ _ _ h => h) (Or.inr ⟨by rfl, rfl⟩) (by assumption) ?_
          try simp only [Act.put, List.setIfInBounds_toArray, List.set_cons_zero, List.set_cons_succ, List.getElem_toArray, List.getElem_cons_zero, List.getElem_cons_succ]
          refine wpAnyH_take (i := 24) (v := undef) rfl (by kernel_rfl) (by kernel_rfl) (by kernel_rfl) (fun _ _ _ h => h) (Or.inr ⟨by rfl, rfl⟩) (by assumption) ?_
          try simp only [Act.put, List.setIfInBounds_toArray, List.set_cons_zero, List.set_cons_succ, List.getElem_toArray, List.getElem_cons_zero, List.getElem_cons_succ]
          refine wpAnyH_take (i := 25) (v := undef) rfl (by kernel_rfl) (by kernel_rfl) (by kernel_rfl) (fun _ _ _ h => h) (Or.inr ⟨by rfl, rfl⟩) (by assumption) ?_
          try simp only [Act.put, List.setIfInBounds_toArray, List.set_cons_zero, List.set_cons_succ, List.getElem_toArray, List.getElem_cons_zero, List.getElem_cons_succ]
          refine wpAnyH_take (i := 26) (v := undef) rfl (by kernel_rfl) (by kernel_rfl) (by kernel_rfl) (fun _ _ _ h => h) (Or.inr ⟨by rfl, rfl⟩) (by assumption) ?_
          try simp only [Act.put, List.setIfInBounds_toArray, List.set_cons_zero, List.set_cons_succ, List.getElem_toArray, List.getElem_cons_zero, List.getElem_cons_succ]
          refine wpAnyH_take (i := 27) (v := ?_) rfl (by kernel_rfl) (by kernel_rfl) (by kernel_rfl) (fun _ _ _ h => h) (Or.inl ⟨by rfl, ?_⟩) (by assumption) ?_
          rotate_left 1
          · (intro w' hSw; (try dsimp only at hSw); go_simp; try with_reducible rfl)
          try simp only [Act.put, List.setIfInBounds_toArray, List.set_cons_zero, List.set_cons_succ, List.getElem_toArray, List.getElem_cons_zero, List.getElem_cons_succ]
          refine wpAnyH_take (i := 28) (v := ?_) rfl (by kernel_rfl) (by kernel_rfl) (by kernel_rfl) (fun _ _ _ h => h) (Or.inl ⟨by rfl, ?_⟩) (by assumption) ?_
          rotate_left 1
          · (intro w' hSw; (try dsimp only at hSw); go_simp; try with_reducible rfl)
          try simp only [Act.put, List.setIfInBounds_toArray, List.set_cons_zero, List.set_cons_succ, List.getElem_toArray, List.getElem_cons_zero, List.getElem_cons_succ]
          refine wpAnyH_done (by kernel_rfl) ?_ _
          replace KKA := hik (KKA.out.trans KW.out)
          replace XA := hik (KW.out.look XA.out)
          clear SA KW hHeld
          go_wp2
          go_roundw
          case rel => exact ⟨k + 1, by omega, by go_num, hik (by rw [HST.out, HF.out]; rw [HD.out.2 rfl]; rfl), KKA, XA⟩
          case measure => simp [intOf]; omega
        · have hne : (u != v) = true := by simpa using huv
          have KA := hik ((Chg.refl nob wi).alloc (.cells #[.int .i64 7, .int .i64 (an : Int), .int .i64 (bn : Int), .int .i64 gk] 51))
          have KKA := hik (HK.out.trans KA.out)
          have XA := hik (KA.out.look HX.out)
          have g0 : World.cell? (wi.alloc (.cells #[.int .i64 7, .int .i64 (an : Int), .int .i64 (bn : Int), .int .i64 gk] 51)) ⟨wi.heap.size, 0, none⟩ = some (.int .i64 7) := by go_simp
          have g1 : World.cell? (wi.alloc (.cells #[.int .i64 7, .int .i64 (an : Int), .int .i64 (bn : Int), .int .i64 gk] 51)) ⟨wi.heap.size, 1, none⟩ = some (.int .i64 (an : Int)) := by go_simp
          have g2 : World.cell? (wi.alloc (.cells #[.int .i64 7, .int .i64 (an : Int), .int .i64 (bn : Int), .int .i64 gk] 51)) ⟨wi.heap.size, 2, none⟩ = some (.int .i64 (bn : Int)) := by go_simp
          have d1 := KA.out.see d0
          have f1 := KA.out.see f0
          clear d0 f0
          go_upto_region 5 with fail
          clear c0 c1 c2 c3 KA x0
          generalize wi.alloc (.cells #[.int .i64 7, .int .i64 (an : Int), .int .i64 (bn : Int), .int .i64 gk] 51) = W2 at KKA XA g0 g1 g2 d1 f1 ⊢
          have KW := hik ((Chg.refl nob W2).drew1)
          have SA := hik (fun (WW : World) (kW : Chg nob W2 WW) => (show (WW.cell? ⟨wi.heap.size, 0, none⟩ = some (.int .i64 7) ∧ WW.cell? ⟨wi.heap.size, 1, none⟩ = some (.int .i64 (an : Int)) ∧ WW.cell? ⟨wi.heap.size, 2, none⟩ = some (.int .i64 (bn : Int)) ∧ WW.cell? ⟨yb, yo + an, none⟩ = some (.int .i64 u) ∧ WW.cell? ⟨yb, yo + bn, none⟩ = some (.int .i64 v)) from ⟨kW.see g0, kW.see g1, kW.see g2, kW.see d1, kW.see f1⟩))
          refine wp_region_held_drew (S := fun w' => w'.cell? ⟨wi.heap.size, 0, none⟩ = some (.int .i64 7) ∧ w'.cell? ⟨wi.heap.size, 1, none⟩ = some (.int .i64 (an : Int)) ∧ w'.cell? ⟨wi.heap.size, 2, none⟩ = some (.int .i64 (bn : Int)) ∧ w'.cell? ⟨yb, yo + an, none⟩ = some (.int .i64 u) ∧ w'.cell? ⟨yb, yo + bn, none⟩ = some (.int .i64 v)) (by kernel_rfl) ⟨g0, g1, g2, d1, f1⟩ (fun hHeld => ?_)
          refine wpAnyH_take (i := 0) (v := ?_) rfl (by kernel_rfl) (by kernel_rfl) (by kernel_rfl) (fun _ _ _ h => h) (Or.inl ⟨by rfl, ?_⟩) (by assumption) ?_
          rotate_left 1
          · (intro w' hSw; (try dsimp only at hSw); go_simp; try with_reducible rfl)
          try simp only [Act.put, List.setIfInBounds_toArray, List.set_cons_zero, List.set_cons_succ, List.getElem_toArray, List.getElem_cons_zero, List.getElem_cons_succ]
          refine wpAnyH_take (i := 1) (v := ?_) rfl (by kernel_rfl) (by kernel_rfl) (by kernel_rfl) (fun _ _ _ h => h) (Or.inl ⟨by rfl, ?_⟩) (by assumption) ?_
          rotate_left 1
          · (intro w' hSw; (try dsimp only at hSw); go_simp; try with_reducible rfl)
          try simp only [Act.put, List.setIfInBounds_toArray, List.set_cons_zero, List.set_cons_succ, List.getElem_toArray, List.getElem_cons_zero, List.getElem_cons_succ]
          refine wpAnyH_take (i := 2) (v := ?_) rfl (by kernel_rfl) (by kernel_rfl) (by kernel_rfl) (fun _ _ _ h => h) (Or.inl ⟨by rfl, ?_⟩) (by assumption) ?_
          rotate_left 1
          · (intro w' hSw; (try dsimp only at hSw); go_simp; try with_reducible rfl)
          try simp only [Act.put, List.setIfInBounds_toArray, List.set_cons_zero, List.set_cons_succ, List.getElem_toArray, List.getElem_cons_zero, List.getElem_cons_succ]
          refine wpAnyH_take (i := 3) (v := ?_) rfl (by kernel_rfl) (by kernel_rfl) (by kernel_rfl) (fun _ _ _ h => h) (Or.inl ⟨by rfl, ?_⟩) (by assumption) ?_
          rotate_left 1
          · (intro w' hSw; (try dsimp only at hSw); go_simp; try with_reducible rfl)
          try simp only [Act.put, List.setIfInBounds_toArray, List.set_cons_zero, List.set_cons_succ, List.getElem_toArray, List.getElem_cons_zero, List.getElem_cons_succ]
          refine wpAnyH_take (i := 4) (v := ?_) rfl (by kernel_rfl) (by kernel_rfl) (by kernel_rfl) (fun _ _ _ h => h) (Or.inl ⟨by rfl, ?_⟩) (by assumption) ?_
          rotate_left 1
          · (intro w' hSw; (try dsimp only at hSw); go_simp; try with_reducible rfl)
          try simp only [Act.put, List.setIfInBounds_toArray, List.set_cons_zero, List.set_cons_succ, List.getElem_toArray, List.getElem_cons_zero, List.getElem_cons_succ]
          refine wpAnyH_take (i := 5) (v := ?_) rfl (by kernel_rfl) (by kernel_rfl) (by kernel_rfl) (fun _ _ _ h => h) (Or.inl ⟨by rfl, ?_⟩) (by assumption) ?_
          rotate_left 1
          · (intro w' hSw; (try dsimp only at hSw); go_simp; try with_reducible rfl)
          try simp only [Act.put, List.setIfInBounds_toArray, List.set_cons_zero, List.set_cons_succ, List.getElem_toArray, List.getElem_cons_zero, List.getElem_cons_succ]
          refine wpAnyH_take (i := 6) (v := ?_) rfl (by kernel_rfl) (by kernel_rfl) (by kernel_rfl) (fun _ _ _ h => h) (Or.inl ⟨by rfl, ?_⟩) (by assumption) ?_
          rotate_left 1
          · (intro w' hSw; (try dsimp only at hSw); go_simp; try with_reducible rfl)
          try simp only [Act.put, List.setIfInBounds_toArray, List.set_cons_zero, List.set_cons_succ, List.getElem_toArray, List.getElem_cons_zero, List.getElem_cons_succ]
          refine wpAnyH_take (i := 7) (v := ?_) rfl (by kernel_rfl) (by kernel_rfl) (by kernel_rfl) (fun _ _ _ h => h) (Or.inl ⟨by rfl, ?_⟩) (by assumption) ?_
          rotate_left 1
          · (intro w' hSw; (try dsimp only at hSw); go_simp; try with_reducible rfl)
          try simp only [Act.put, List.setIfInBounds_toArray, List.set_cons_zero, List.set_cons_succ, List.getElem_toArray, List.getElem_cons_zero, List.getElem_cons_succ]
          refine wpAnyH_take (i := 8) (v := ?_) rfl (by kernel_rfl) (by kernel_rfl) (by kernel_rfl) (fun _ _ _ h => h) (Or.inl ⟨by rfl, ?_⟩) (by assumption) ?_
          rotate_left 1
          · (intro w' hSw; (try dsimp only at hSw); go_simp; try with_reducible rfl)
          try simp only [Act.put, List.setIfInBounds_toArray, List.set_cons_zero, List.set_cons_succ, List.getElem_toArray, List.getElem_cons_zero, List.getElem_cons_succ]
          refine wpAnyH_take (i := 9) (v := ?_) rfl (by kernel_rfl) (by kernel_rfl) (by kernel_rfl) (fun _ _ _ h => h) (Or.inl ⟨by rfl, ?_⟩) (by assumption) ?_
          rotate_left 1
          · (intro w' hSw; (try dsimp only at hSw); go_simp; try with_reducible rfl)
          try simp only [Act.put, List.setIfInBounds_toArray, List.set_cons_zero, List.set_cons_succ, List.getElem_toArray, List.getElem_cons_zero, List.getElem_cons_succ]
          refine wpAnyH_take (i := 10) (v := ?_) rfl (by kernel_rfl) (by kernel_rfl) (by kernel_rfl) (fun _ _ _ h => h) (Or.inl ⟨by rfl, ?_⟩) (by assumption) ?_
          rotate_left 1
          · (intro w' hSw; (try dsimp only at hSw); go_simp; try with_reducible rfl)
          try simp only [Act.put, List.setIfInBounds_toArray, List.set_cons_zero, List.set_cons_succ, List.getElem_toArray, List.getElem_cons_zero, List.getElem_cons_succ]
          refine wpAnyH_take (i := 11) (v := ?_) rfl (by kernel_rfl) (by kernel_rfl) (by kernel_rfl) (fun _ _ _ h => h) (Or.inl ⟨by rfl, ?_⟩) (by assumption) ?_
          rotate_left 1
          · (intro w' hSw; (try dsimp only at hSw); go_simp; try with_reducible rfl)
          try simp only [Act.put, List.setIfInBounds_toArray, List.set_cons_zero, List.set_cons_succ, List.getElem_toArray, List.getElem_cons_zero, List.getElem_cons_succ]
          refine wpAnyH_take (i := 12) (v := ?_) rfl (by kernel_rfl) (by kernel_rfl) (by kernel_rfl) (fun _ _ _ h => h) (Or.inl ⟨by rfl, ?_⟩) (by assumption) ?_
          rotate_left 1
          · (intro w' hSw; (try dsimp only at hSw); go_simp; try with_reducible rfl)
          try simp only [Act.put, List.setIfInBounds_toArray, List.set_cons_zero, List.set_cons_succ, List.getElem_toArray, List.getElem_cons_zero, List.getElem_cons_succ]
          refine wpAnyH_take (i := 13) (v := ?_) rfl (by kernel_rfl) (by kernel_rfl) (by kernel_rfl) (fun _ _ _ h => h) (Or.inl ⟨by rfl, ?_⟩) (by assumption) ?_
          rotate_left 1
          · (intro w' hSw; (try dsimp only at hSw); go_simp; try with_reducible rfl)
          try simp only [Act.put, List.setIfInBounds_toArray, List.set_cons_zero, List.set_cons_succ, List.getElem_toArray, List.getElem_cons_zero, List.getElem_cons_succ]
          refine wpAnyH_take (i := 14) (v := ?_) rfl (by kernel_rfl) (by kernel_rfl) (by kernel_rfl) (fun _ _ _ h => h) (Or.inl ⟨by rfl, ?_⟩) (by assumption) ?_
          rotate_left 1
          · (intro w' hSw; (try dsimp only at hSw); go_simp; try with_reducible rfl)
          try simp only [Act.put, List.setIfInBounds_toArray, List.set_cons_zero, List.set_cons_succ, List.getElem_toArray, List.getElem_cons_zero, List.getElem_cons_succ]
          refine wpAnyH_take (i := 15) (v := ?_) rfl (by kernel_rfl) (by kernel_rfl) (by kernel_rfl) (fun _ _ _ h => h) (Or.inl ⟨by rfl, ?_⟩) (by assumption) ?_
          rotate_left 1
          · (intro w' hSw; (try dsimp only at hSw); go_simp; try with_reducible rfl)
          try simp only [Act.put, List.setIfInBounds_toArray, List.set_cons_zero, List.set_cons_succ, List.getElem_toArray, List.getElem_cons_zero, List.getElem_cons_succ]
          refine wpAnyH_take (i := 16) (v := ?_) rfl (by kernel_rfl) (by kernel_rfl) (by kernel_rfl) (fun _ _ _ h => h) (Or.inl ⟨by rfl, ?_⟩) (by assumption) ?_
          rotate_left 1
          · (intro w' hSw; (try dsimp only at hSw); go_simp; try with_reducible rfl)
          try simp only [Act.put, List.setIfInBounds_toArray, List.set_cons_zero, List.set_cons_succ, List.getElem_toArray, List.getElem_cons_zero, List.getElem_cons_succ]
          refine wpAnyH_take (i := 17) (v := undef) rfl (by kernel_rfl) (by kernel_rfl) (by kernel_rfl) (fun _ _ _ h => h) (Or.inr ⟨by rfl, rfl⟩) (by assumption) ?_
          try simp only [Act.put, List.setIfInBounds_toArray, List.set_cons_zero, List.set_cons_succ, List.getElem_toArray, List.getElem_cons_zero, List.getElem_cons_succ]
          refine wpAnyH_take (i := 18) (v := undef) rfl (by kernel_rfl) (by kernel_rfl) (by kernel_rfl) (fun _ _ _ h => h) (Or.inr ⟨by rfl, rfl⟩) (by assumption) ?_
          try simp only [Act.put, List.setIfInBounds_toArray, List.set_cons_zero, List.set_cons_succ, List.getElem_toArray, List.getElem_cons_zero, List.getElem_cons_succ]
          refine wpAnyH_take (i := 19) (v := undef) rfl (by kernel_rfl) (by kernel_rfl) (by kernel_rfl) (fun _ _ _ h => h) (Or.inr ⟨by rfl, rfl⟩) (by assumption) ?_
          try simp only [Act.put, List.setIfInBounds_toArray, List.set_cons_zero, List.set_cons_succ, List.getElem_toArray, List.getElem_cons_zero, List.getElem_cons_succ]
          refine wpAnyH_take (i := 20) (v := undef) rfl (by kernel_rfl) (by kernel_rfl) (by kernel_rfl) (fun _ _ _ h => h) (Or.inr ⟨by rfl, rfl⟩) (by assumption) ?_
          try simp only [Act.put, List.setIfInBounds_toArray, List.set_cons_zero, List.set_cons_succ, List.getElem_toArray, List.getElem_cons_zero, List.getElem_cons_succ]
          refine wpAnyH_take (i := 21) (v := undef) rfl (by kernel_rfl) (by kernel_rfl) (by kernel_rfl) (fun _ _ _ h => h) (Or.inr ⟨by rfl, rfl⟩) (by assumption) ?_
          try simp only [Act.put, List.setIfInBounds_toArray, List.set_cons_zero, List.set_cons_succ, List.getElem_toArray, List.getElem_cons_zero, List.getElem_cons_succ]
          refine wpAnyH_take (i := 22) (v := undef) rfl (by kernel_rfl) (by kernel_rfl) (by kernel_rfl) (fun _ _ _ h => h) (Or.inr ⟨by rfl, rfl⟩) (by assumption) ?_
          try simp only [Act.put, List.setIfInBounds_toArray, List.set_cons_zero, List.set_cons_succ, List.getElem_toArray, List.getElem_cons_zero, List.getElem_cons_succ]
          refine wpAnyH_take (i := 23) (v := undef) rfl (by kernel_rfl) (by kernel_rfl) (by kernel_rfl) (fun _ _ _ h => h) (Or.inr ⟨by rfl, rfl⟩) (by assumption) ?_
          try simp only [Act.put, List.setIfInBounds_toArray, List.set_cons_zero, List.set_cons_succ, List.getElem_toArray, List.getElem_cons_zero, List.getElem_cons_succ]
          refine wpAnyH_take (i := 24) (v := undef) rfl (by kernel_rfl) (by kernel_rfl) (by kernel_rfl) (fun _ _ _ h => h) (Or.inr ⟨by rfl, rfl⟩) (by assumption) ?_
          try simp only [Act.put, List.setIfInBounds_toArray, List.set_cons_zero, List.set_cons_succ, List.getElem_toArray, List.getElem_cons_zero, List.getElem_cons_succ]
          refine wpAnyH_take (i := 25) (v := undef) rfl (by kernel_rfl) (by kernel_rfl) (by kernel_rfl) (fun _ _ _ h => h) (Or.inr ⟨by rfl, rfl⟩) (by assumption) ?_
          try simp only [Act.put, List.setIfInBounds_toArray, List.set_cons_zero, List.set_cons_succ, List.getElem_toArray, List.getElem_cons_zero, List.getElem_cons_succ]
          refine wpAnyH_take (i := 26) (v := undef) rfl (by kernel_rfl) (by kernel_rfl) (by kernel_rfl) (fun _ _ _ h => h) (Or.inr ⟨by rfl, rfl⟩) (by assumption) ?_
          try simp only [Act.put, List.setIfInBounds_toArray, List.set_cons_zero, List.set_cons_succ, List.getElem_toArray, List.getElem_cons_zero, List.getElem_cons_succ]
          refine wpAnyH_take (i := 27) (v := undef) rfl (by kernel_rfl) (by kernel_rfl) (by kernel_rfl) (fun _ _ _ h => h) (Or.inr ⟨by rfl, rfl⟩) (by assumption) ?_
          try simp only [Act.put, List.setIfInBounds_toArray, List.set_cons_zero, List.set_cons_succ, List.getElem_toArray, List.getElem_cons_zero, List.getElem_cons_succ]
          refine wpAnyH_take (i := 28) (v := ?_) rfl (by kernel_rfl) (by kernel_rfl) (by kernel_rfl) (fun _ _ _ h => h) (Or.inl ⟨by rfl, ?_⟩) (by assumption) ?_
          rotate_left 1
          · (intro w' hSw; (try dsimp only at hSw); go_simp; try with_reducible rfl)
          try simp only [Act.put, List.setIfInBounds_toArray, List.set_cons_zero, List.set_cons_succ, List.getElem_toArray, List.getElem_cons_zero, List.getElem_cons_succ]
          refine wpAnyH_done (by kernel_rfl) ?_ _
          replace KKA := hik (KKA.out.trans KW.out)
          clear SA KW hHeld
          go_wp2
          go_ret
          exact ⟨ret_bool (HNO.out (by cases hf : ftk G V k with | false => rfl | true => exact absurd (HD.out.1 hf) huv)).symm, KKA.out⟩
      have n7 : (op9 == 7) = false := by simpa using e7
      by_cases e8 : op9 = 8
      · subst e8
        have qa := QA.out (by omega)
        obtain ⟨an, rfl⟩ : ∃ an : Nat, ga = (an : Int) := ⟨ga.toNat, by omega⟩
        obtain ⟨yb, yo, rfl, hyb, d0⟩ := (hs.out.keep HK.out) an (by omega)
        have d0 : wi.cell? ⟨yb, yo + an, none⟩ = some (.int .i64 (V an)) := d0
        replace HD := hik (show (ftk G V k = true ↔ V an ≤ 1) by rw [HD.out, if_neg (by omega), if_pos rfl, Int.toNat_natCast]; simp)
        have ia : (an : Int) < n := by omega
        generalize V an = u at d0 HD
        by_cases hu : u ≤ 1
        · have hgt : decide (1 < u) = false := by simp; omega
          have KA := hik ((Chg.refl nob wi).alloc (.cells #[.int .i64 8, .int .i64 (an : Int), .int .i64 gb, .int .i64 gk] 51))
          have KKA := hik (HK.out.trans KA.out)
          have XA := hik (KA.out.look HX.out)
          have g0 : World.cell? (wi.alloc (.cells #[.int .i64 8, .int .i64 (an : Int), .int .i64 gb, .int .i64 gk] 51)) ⟨wi.heap.size, 0, none⟩ = some (.int .i64 8) := by go_simp
          have g1 : World.cell? (wi.alloc (.cells #[.int .i64 8, .int .i64 (an : Int), .int .i64 gb, .int .i64 gk] 51)) ⟨wi.heap.size, 1, none⟩ = some (.int .i64 (an : Int)) := by go_simp
          have g2 : World.cell? (wi.alloc (.cells #[.int .i64 8, .int .i64 (an : Int), .int .i64 gb, .int .i64 gk] 51)) ⟨wi.heap.size, 2, none⟩ = some (.int .i64 gb) := by go_simp
          have d1 := KA.out.see d0
          clear d0
          go_upto_region 5 with fail
          clear c0 c1 c2 c3 KA x0
          generalize wi.alloc (.cells #[.int .i64 8, .int .i64 (an : Int), .int .i64 gb, .int .i64 gk] 51) = W2 at KKA XA g0 g1 g2 d1 ⊢
          have KW := hik ((Chg.refl nob W2).drew1)
          have SA := hik (fun (WW : World) (kW : Chg nob W2 WW) => (show (WW.cell? ⟨wi.heap.size, 0, none⟩ = some (.int .i64 8) ∧ WW.cell? ⟨wi.heap.size, 1, none⟩ = some (.int .i64 (an : Int)) ∧ WW.cell? ⟨wi.heap.size, 2, none⟩ = some (.int .i64 gb) ∧ WW.cell? ⟨yb, yo + an, none⟩ = some (.int .i64 u)) from ⟨kW.see g0, kW.see g1, kW.see g2, kW.see d1⟩))
          refine wp_region_held_drew (S := fun w' => w'.cell? ⟨wi.heap.size, 0, none⟩ = some (.int .i64 8) ∧ w'.cell? ⟨wi.heap.size, 1, none⟩ = some (.int .i64 (an : Int)) ∧ w'.cell? ⟨wi.heap.size, 2, none⟩ = some (.int .i64 gb) ∧ w'.cell? ⟨yb, yo + an, none⟩ = some (.int .i64 u)) (by kernel_rfl) ⟨g0, g1, g2, d1⟩ (fun hHeld => ?_)
          refine wpAnyH_take (i := 0) (v := ?_) rfl (by kernel_rfl) (by kernel_rfl) (by kernel_rfl) (fun _ _ _ h => h) (Or.inl ⟨by rfl, ?_⟩) (by assumption) ?_
          rotate_left 1
          · (intro w' hSw; (try dsimp only at hSw); go_simp; try with_reducible rfl)
          try simp only [Act.put, List.setIfInBounds_toArray, List.set_cons_zero, List.set_cons_succ, List.getElem_toArray, List.getElem_cons_zero, List.getElem_cons_succ]
          refine wpAnyH_take (i := 1) (v := ?_) rfl (by kernel_rfl) (by kernel_rfl) (by kernel_rfl) (fun _ _ _ h => h) (Or.inl ⟨by rfl, ?_⟩) (by assumption) ?_
          rotate_left 1
          · (intro w' hSw; (try dsimp only at hSw); go_simp; try with_reducible rfl)
          try simp only [Act.put, List.setIfInBounds_toArray, List.set_cons_zero, List.set_cons_succ, List.getElem_toArray, List.getElem_cons_zero, List.getElem_cons_succ]
          refine wpAnyH_take (i := 2) (v := ?_) rfl (by kernel_rfl) (by kernel_rfl) (by kernel_rfl) (fun _ _ _ h => h) (Or.inl ⟨by rfl, ?_⟩) (by assumption) ?_
          rotate_left 1
          · (intro w' hSw; (try dsimp only at hSw); go_simp; try with_reducible rfl)
          try simp only [Act.put, List.setIfInBounds_toArray, List.set_cons_zero, List.set_cons_succ, List.getElem_toArray, List.getElem_cons_zero, List.getElem_cons_succ]
          refine wpAnyH_take (i := 3) (v := ?_) rfl (by kernel_rfl) (by kernel_rfl) (by kernel_rfl) (fun _ _ _ h => h) (Or.inl ⟨by rfl, ?_⟩) (by assumption) ?_
          rotate_left 1
          · (intro w' hSw; (try dsimp only at hSw); go_simp; try with_reducible rfl)
          try simp only [Act.put, List.setIfInBounds_toArray, List.set_cons_zero, List.set_cons_succ, List.getElem_toArray, List.getElem_cons_zero, List.getElem_cons_succ]
          refine wpAnyH_take (i := 4) (v := undef) rfl (by kernel_rfl) (by kernel_rfl) (by kernel_rfl) (fun _ _ _ h => h) (Or.inr ⟨by rfl, rfl⟩) (by assumption) ?_
          try simp only [Act.put, List.setIfInBounds_toArray, List.set_cons_zero, List.set_cons_succ, List.getElem_toArray, List.getElem_cons_zero, List.getElem_cons_succ]
          refine wpAnyH_take (i := 5) (v := undef) rfl (by kernel_rfl) (by kernel_rfl) (by kernel_rfl) (fun _ _ _ h => h) (Or.inr ⟨by rfl, rfl⟩) (by assumption) ?_
          try simp only [Act.put, List.setIfInBounds_toArray, List.set_cons_zero, List.set_cons_succ, List.getElem_toArray, List.getElem_cons_zero, List.getElem_cons_succ]
          refine wpAnyH_take (i := 6) (v := undef) rfl (by kernel_rfl) (by kernel_rfl) (by kernel_rfl) (fun _ _ _ h => h) (Or.inr ⟨by rfl, rfl⟩) (by assumption) ?_
          try simp only [Act.put, List.setIfInBounds_toArray, List.set_cons_zero, List.set_cons_succ, List.getElem_toArray, List.getElem_cons_zero, List.getElem_cons_succ]
          refine wpAnyH_take (i := 7) (v := undef) rfl (by kernel_rfl) (by kernel_rfl) (by kernel_rfl) (fun _ _ _ h => h) (Or.inr ⟨by rfl, rfl⟩) (by assumption) ?_
          try simp only [Act.put, List.setIfInBounds_toArray, List.set_cons_zero, List.set_cons_succ, List.getElem_toArray, List.getElem_cons_zero, List.getElem_cons_succ]
          refine wpAnyH_take (i := 8) (v := undef) rfl (by kernel_rfl) (by kernel_rfl) (by kernel_rfl) (fun _ _ _ h => h) (Or.inr ⟨by rfl, rfl⟩) (by assumption) ?_
          try simp only [Act.put, List.setIfInBounds_toArray, List.set_cons_zero, List.set_cons_succ, List.getElem_toArray, List.getElem_cons_zero, List.getElem_cons_succ]
          refine wpAnyH_take (i := 9) (v := undef) rfl (by kernel_rfl) (by kernel_rfl) (by kernel_rfl) (fun _ _ _ h => h) (Or.inr ⟨by rfl, rfl⟩) (by assumption) ?_
          try simp only [Act.put, List.setIfInBounds_toArray, List.set_cons_zero, List.set_cons_succ, List.getElem_toArray, List.getElem_cons_zero, List.getElem_cons_succ]
          refine wpAnyH_take (i := 10) (v := undef) rfl (by kernel_rfl) (by kernel_rfl) (by kernel_rfl) (fun _ _ _ h => h) (Or.inr ⟨by rfl, rfl⟩) (by assumption) ?_
          try simp only [Act.put, List.setIfInBounds_toArray, List.set_cons_zero, List.set_cons_succ, List.getElem_toArray, List.getElem_cons_zero, List.getElem_cons_succ]
          refine wpAnyH_take (i := 11) (v := undef) rfl (by kernel_rfl) (by kernel_rfl) (by kernel_rfl) (fun _ _ _ h => h) (Or.inr ⟨by rfl, rfl⟩) (by assumption) ?_
          try simp only [Act.put, List.setIfInBounds_toArray, List.set_cons_zero, List.set_cons_succ, List.getElem_toArray, List.getElem_cons_zero, List.getElem_cons_succ]
          refine wpAnyH_take (i := 12) (v := undef) rfl (by kernel_rfl) (by kernel_rfl) (by kernel_rfl) (fun _ _ _ h => h) (Or.inr ⟨by rfl, rfl⟩) (by assumption) ?_
          try simp only [Act.put, List.setIfInBounds_toArray, List.set_cons_zero, List.set_cons_succ, List.getElem_toArray, List.getElem_cons_zero, List.getElem_cons_succ]
          refine wpAnyH_take (i := 13) (v := undef) rfl (by kernel_rfl) (by kernel_rfl) (by kernel_rfl) (fun _ _ _ h => h) (Or.inr ⟨by rfl, rfl⟩) (by assumption) ?_
          try simp only [Act.put, List.setIfInBounds_toArray, List.set_cons_zero, List.set_cons_succ, List.getElem_toArray, List.getElem_cons_zero, List.getElem_cons_succ]
          refine wpAnyH_take (i := 14) (v := undef) rfl (by kernel_rfl) (by kernel_rfl) (by kernel_rfl) (fun _ _ _ h => h) (Or.inr ⟨by rfl, rfl⟩) (by assumption) ?_
          try simp only [Act.put, List.setIfInBounds_toArray, List.set_cons_zero, List.set_cons_succ, List.getElem_toArray, List.getElem_cons_zero, List.getElem_cons_succ]
          refine wpAnyH_take (i := 15) (v := ?_) rfl (by kernel_rfl) (by kernel_rfl) (by kernel_rfl) (fun _ _ _ h => h) (Or.inl ⟨by rfl, ?_⟩) (by assumption) ?_
          rotate_left 1
          · (intro w' hSw; (try dsimp only at hSw); go_simp; try with_reducible rfl)
          try simp only [Act.put, List.setIfInBounds_toArray, List.set_cons_zero, List.set_cons_succ, List.getElem_toArray, List.getElem_cons_zero, List.getElem_cons_succ]
          refine wpAnyH_take (i := 16) (v := ?_) rfl (by kernel_rfl) (by kernel_rfl) (by kernel_rfl) (fun _ _ _ h => h) (Or.inl ⟨by rfl, ?_⟩) (by assumption) ?_
          rotate_left 1
          · (intro w' hSw; (try dsimp only at hSw); go_simp; try with_reducible rfl)
          try simp only [Act.put, List.setIfInBounds_toArray, List.set_cons_zero, List.set_cons_succ, List.getElem_toArray, List.getElem_cons_zero, List.getElem_cons_succ]
          refine wpAnyH_take (i := 17) (v := ?_) rfl (by kernel_rfl) (by kernel_rfl) (by kernel_rfl) (fun _ _ _ h => h) (Or.inl ⟨by rfl, ?_⟩) (by assumption) ?_
          rotate_left 1
          · (intro w' hSw; (try dsimp only at hSw); go_simp; try with_reducible rfl)
          try simp only [Act.put, List.setIfInBounds_toArray, List.set_cons_zero, List.set_cons_succ, List.getElem_toArray, List.getElem_cons_zero, List.getElem_cons_succ]
          refine wpAnyH_take (i := 18) (v := ?_) rfl (by kernel_rfl) (by kernel_rfl) (by kernel_rfl) (fun _ _ _ h => h) (Or.inl ⟨by rfl, ?_⟩) (by assumption) ?_
          rotate_left 1
          · (intro w' hSw; (try dsimp only at hSw); go_simp; try with_reducible rfl)
          try simp only [Act.put, List.setIfInBounds_toArray, List.set_cons_zero, List.set_cons_succ, List.getElem_toArray, List.getElem_cons_zero, List.getElem_cons_succ]
          refine wpAnyH_take (i := 19) (v := ?_) rfl (by kernel_rfl) (by kernel_rfl) (by kernel_rfl) (fun _ _ _ h => h) (Or.inl ⟨by rfl, ?_⟩) (by assumption) ?_
          rotate_left 1
          · (intro w' hSw; (try dsimp only at hSw); go_simp; try with_reducible rfl)
          try simp only [Act.put, List.setIfInBounds_toArray, List.set_cons_zero, List.set_cons_succ, List.getElem_toArray, List.getElem_cons_zero, List.getElem_cons_succ]
          refine wpAnyH_take (i := 20) (v := ?_) rfl (by kernel_rfl) (by kernel_rfl) (by kernel_rfl) (fun _ _ _ h => h) (Or.inl ⟨by rfl, ?_⟩) (by assumption) ?_
          rotate_left 1
          · (intro w' hSw; (try dsimp only at hSw); go_simp; try with_reducible rfl)
          try simp only [Act.put, List.setIfInBounds_toArray, List.set_cons_zero, List.set_cons_succ, List.getElem_toArray, List.getElem_cons_zero, List.getElem_cons_succ]
          refine wpAnyH_take (i := 21) (v := ?_) rfl (by kernel_rfl) (by kernel_rfl) (by kernel_rfl) (fun _ _ _ h => h) (Or.inl ⟨by rfl, ?_⟩) (by assumption) ?_
          rotate_left 1
          · (intro w' hSw; (try dsimp only at hSw); go_simp; try with_reducible rfl)
          try simp only [Act.put, List.setIfInBounds_toArray, List.set_cons_zero, List.set_cons_succ, List.getElem_toArray, List.getElem_cons_zero, List.getElem_cons_succ]
          refine wpAnyH_take (i := 22) (v := ?_) rfl (by kernel_rfl) (by kernel_rfl) (by kernel_rfl) (fun _ _ _ h => h) (Or.inl ⟨by rfl, ?_⟩) (by assumption) ?_
          rotate_left 1
          · (intro w' hSw; (try dsimp only at hSw); go_simp; try with_reducible rfl)
          try simp only [Act.put, List.setIfInBounds_toArray, List.set_cons_zero, List.set_cons_succ, List.getElem_toArray, List.getElem_cons_zero, List.getElem_cons_succ]
          refine wpAnyH_take (i := 23) (v := ?_) rfl (by kernel_rfl) (by kernel_rfl) (by kernel_rfl) (fun _ _ _ h => h) (Or.inl ⟨by rfl, ?_⟩) (by assumption) ?_
          rotate_left 1
          · (intro w' hSw; (try dsimp only at hSw); go_simp; try with_reducible rfl)
          try simp only [Act.put, List.setIfInBounds_toArray, List.set_cons_zero, List.set_cons_succ, List.getElem_toArray, List.getElem_cons_zero, List.getElem_cons_succ]
          refine wpAnyH_take (i := 24) (v := ?_) rfl (by kernel_rfl) (by kernel_rfl) (by kernel_rfl) (fun _ _ _ h => h) (Or.inl ⟨by rfl, ?_⟩) (by assumption) ?_
          rotate_left 1
          · (intro w' hSw; (try dsimp only at hSw); go_simp; try with_reducible rfl)
          try simp only [Act.put, List.setIfInBounds_toArray, List.set_cons_zero, List.set_cons_succ, List.getElem_toArray, List.getElem_cons_zero, List.getElem_cons_succ]
          refine wpAnyH_take (i := 25) (v := ?_) rfl (by kernel_rfl) (by kernel_rfl) (by kernel_rfl) (fun _ _ _ h => h) (Or.inl ⟨by rfl, ?_⟩) (by assumption) ?_
          rotate_left 1
          · (intro w' hSw; (try dsimp only at hSw); go_simp; try with_reducible rfl)
          try simp only [Act.put, List.setIfInBounds_toArray, List.set_cons_zero, List.set_cons_succ, List.getElem_toArray, List.getElem_cons_zero, List.getElem_cons_succ]
          refine wpAnyH_take (i := 26) (v := ?_) rfl (by kernel_rfl) (by kernel_rfl) (by kernel_rfl) (fun _ _ _ h => h) (Or.inl ⟨by rfl, ?_⟩) (by assumption) ?_
          rotate_left 1
          · (intro w' hSw; (try dsimp only at hSw); go_simp; try with_reducible rfl)
          try simp only [Act.put, List.setIfInBounds_toArray, List.set_cons_zero, List.set_cons_succ, List.getElem_toArray, List.getElem_cons_zero, List.getElem_cons_succ]
          refine wpAnyH_take (i := 27) (v := ?_) rfl (by kernel_rfl) (by kernel_rfl) (by kernel_rfl) (fun _ _ _ h => h) (Or.inl ⟨by rfl, ?_⟩) (by assumption) ?_
          rotate_left 1
          · (intro w' hSw; (try dsimp only at hSw); go_simp; try with_reducible rfl)
          try simp only [Act.put, List.setIfInBounds_toArray, List.set_cons_zero, List.set_cons_succ, List.getElem_toArray, List.getElem_cons_zero, List.getElem_cons_succ]
          refine wpAnyH_take (i := 28) (v := ?_) rfl (by kernel_rfl) (by kernel_rfl) (by kernel_rfl) (fun _ _ _ h => h) (Or.inl ⟨by rfl, ?_⟩) (by assumption) ?_
          rotate_left 1
          · (intro w' hSw; (try dsimp only at hSw); go_simp; try with_reducible rfl)
          try simp only [Act.put, List.setIfInBounds_toArray, List.set_cons_zero, List.set_cons_succ, List.getElem_toArray, List.getElem_cons_zero, List.getElem_cons_succ]
          refine wpAnyH_done (by kernel_rfl) ?_ _
          replace KKA := hik (KKA.out.trans KW.out)
          replace XA := hik (KW.out.look XA.out)
          clear SA KW hHeld
          go_wp2
          go_roundw
          case rel => exact ⟨k + 1, by omega, by go_num, hik (by rw [HST.out, HF.out]; rw [HD.out.2 hu]; rfl), KKA, XA⟩
          case measure => simp [intOf]; omega
        · have hgt : decide (1 < u) = true := by simp; omega
          have KA := hik ((Chg.refl nob wi).alloc (.cells #[.int .i64 8, .int .i64 (an : Int), .int .i64 gb, .int .i64 gk] 51))
          have KKA := hik (HK.out.trans KA.out)
          have XA := hik (KA.out.look HX.out)
          have g0 : World.cell? (wi.alloc (.cells #[.int .i64 8, .int .i64 (an : Int), .int .i64 gb, .int .i64 gk] 51)) ⟨wi.heap.size, 0, none⟩ = some (.int .i64 8) := by go_simp
          have g1 : World.cell? (wi.alloc (.cells #[.int .i64 8, .int .i64 (an : Int), .int .i64 gb, .int .i64 gk] 51)) ⟨wi.heap.size, 1, none⟩ = some (.int .i64 (an : Int)) := by go_simp
          have g2 : World.cell? (wi.alloc (.cells #[.int .i64 8, .int .i64 (an : Int), .int .i64 gb, .int .i64 gk] 51)) ⟨wi.heap.size, 2, none⟩ = some (.int .i64 gb) := by go_simp
          have d1 := KA.out.see d0
          clear d0
          go_upto_region 5 with fail
          clear c0 c1 c2 c3 KA x0
          generalize wi.alloc (.cells #[.int .i64 8, .int .i64 (an : Int), .int .i64 gb, .int .i64 gk] 51) = W2 at KKA XA g0 g1 g2 d1 ⊢
          have KW := hik ((Chg.refl nob W2).drew1)
          have SA := hik (fun (WW : World) (kW : Chg nob W2 WW) => (show (WW.cell? ⟨wi.heap.size, 0, none⟩ = some (.int .i64 8) ∧ WW.cell? ⟨wi.heap.size, 1, none⟩ = some (.int .i64 (an : Int)) ∧ WW.cell? ⟨wi.heap.size, 2, none⟩ = some (.int .i64 gb) ∧ WW.cell? ⟨yb, yo + an, none⟩ = some (.int .i64 u)) from ⟨kW.see g0, kW.see g1, kW.see g2, kW.see d1⟩))
          refine wp_region_held_drew (S := fun w' => w'.cell? ⟨wi.heap.size, 0, none⟩ = some (.int .i64 8) ∧ w'.cell? ⟨wi.heap.size, 1, none⟩ = some (.int .i64 (an : Int)) ∧ w'.cell? ⟨wi.heap.size, 2, none⟩ = some (.int .i64 gb) ∧ w'.cell? ⟨yb, yo + an, none⟩ = some (.int .i64 u)) (by kernel_rfl) ⟨g0, g1, g2, d1⟩ (fun hHeld => ?_)
          refine wpAnyH_take (i := 0) (v := ?_) rfl (by kernel_rfl) (by kernel_rfl) (by kernel_rfl) (fun _ _ _ h => h) (Or.inl ⟨by rfl, ?_⟩) (by assumption) ?_
          rotate_left 1
          · (intro w' hSw; (try dsimp only at hSw); go_simp; try with_reducible rfl)
          try simp only [Act.put, List.setIfInBounds_toArray, List.set_cons_zero, List.set_cons_succ, List.getElem_toArray, List.getElem_cons_zero, List.getElem_cons_succ]
          refine wpAnyH_take (i := 1) (v := ?_) rfl (by kernel_rfl) (by kernel_rfl) (by kernel_rfl) (fun _ _ _ h => h) (Or.inl ⟨by rfl, ?_⟩) (by assumption) ?_
          rotate_left 1
          · (intro w' hSw; (try dsimp only at hSw); go_simp; try with_reducible rfl)
          try simp only [Act.put, List.setIfInBounds_toArray, List.set_cons_zero, List.set_cons_succ, List.getElem_toArray, List.getElem_cons_zero, List.getElem_cons_succ]
          refine wpAnyH_take (i := 2) (v := ?_) rfl (by kernel_rfl) (by kernel_rfl) (by kernel_rfl) (fun _ _ _ h => h) (Or.inl ⟨by rfl, ?_⟩) (by assumption) ?_
          rotate_left 1
          · (intro w' hSw; (try dsimp only at hSw); go_simp; try with_reducible rfl)
          try simp only [Act.put, List.setIfInBounds_toArray, List.set_cons_zero, List.set_cons_succ, List.getElem_toArray, List.getElem_cons_zero, List.getElem_cons_succ]
          refine wpAnyH_take (i := 3) (v := ?_) rfl (by kernel_rfl) (by kernel_rfl) (by kernel_rfl) (fun _ _ _ h => h) (Or.inl ⟨by rfl, ?_⟩) (by assumption) ?_
          rotate_left 1
          · (intro w' hSw; (try dsimp only at hSw); go_simp; try with_reducible rfl)
          try simp only [Act.put, List.setIfInBounds_toArray, List.set_cons_zero, List.set_cons_succ, List.getElem_toArray, List.getElem_cons_zero, List.getElem_cons_succ]
          refine wpAnyH_take (i := 4) (v := undef) rfl (by kernel_rfl) (by kernel_rfl) (by kernel_rfl) (fun _ _ _ h => h) (Or.inr ⟨by rfl, rfl⟩) (by assumption) ?_
          try simp only [Act.put, List.setIfInBounds_toArray, List.set_cons_zero, List.set_cons_succ, List.getElem_toArray, List.getElem_cons_zero, List.getElem_cons_succ]
          refine wpAnyH_take (i := 5) (v := undef) rfl (by kernel_rfl) (by kernel_rfl) (by kernel_rfl) (fun _ _ _ h => h) (Or.inr ⟨by rfl, rfl⟩) (by assumption) ?_
          try simp only [Act.put, List.setIfInBounds_toArray, List.set_cons_zero, List.set_cons_succ, List.getElem_toArray, List.getElem_cons_zero, List.getElem_cons_succ]
          refine wpAnyH_take (i := 6) (v := undef) rfl (by kernel_rfl) (by kernel_rfl) (by kernel_rfl) (fun _ _ _ h => h) (Or.inr ⟨by rfl, rfl⟩) (by assumption) ?_
          try simp only [Act.put, List.setIfInBounds_toArray, List.set_cons_zero, List.set_cons_succ, List.getElem_toArray, List.getElem_cons_zero, List.getElem_cons_succ]
          refine wpAnyH_take (i := 7) (v := undef) rfl (by kernel_rfl) (by kernel_rfl) (by kernel_rfl) (fun _ _ _ h => h) (Or.inr ⟨by rfl, rfl⟩) (by assumption) ?_
          try simp only [Act.put, List.setIfInBounds_toArray, List.set_cons_zero, List.set_cons_succ, List.getElem_toArray, List.getElem_cons_zero, List.getElem_cons_succ]
          refine wpAnyH_take (i := 8) (v := undef) rfl (by kernel_rfl) (by kernel_rfl) (by kernel_rfl) (fun _ _ _ h => h) (Or.inr ⟨by rfl, rfl⟩) (by assumption) ?_
          try simp only [Act.put, List.setIfInBounds_toArray, List.set_cons_zero, List.set_cons_succ, List.getElem_toArray, List.getElem_cons_zero, List.getElem_cons_succ]
          refine wpAnyH_take (i := 9) (v := undef) rfl (by kernel_rfl) (by kernel_rfl) (by kernel_rfl) (fun _ _ _ h => h) (Or.inr ⟨by rfl, rfl⟩) (by assumption) ?_
          try simp only [Act.put, List.setIfInBounds_toArray, List.set_cons_zero, List.set_cons_succ, List.getElem_toArray, List.getElem_cons_zero, List.getElem_cons_succ]
          refine wpAnyH_take (i := 10) (v := undef) rfl (by kernel_rfl) (by kernel_rfl) (by kernel_rfl) (fun _ _ _ h => h) (Or.inr ⟨by rfl, rfl⟩) (by assumption) ?_
          try simp only [Act.put, List.setIfInBounds_toArray, List.set_cons_zero, List.set_cons_succ, List.getElem_toArray, List.getElem_cons_zero, List.getElem_cons_succ]
          refine wpAnyH_take (i := 11) (v := undef) rfl (by kernel_rfl) (by kernel_rfl) (by kernel_rfl) (fun _ _ _ h => h) (Or.inr ⟨by rfl, rfl⟩) (by assumption) ?_
          try simp only [Act.put, List.setIfInBounds_toArray, List.set_cons_zero, List.set_cons_succ, List.getElem_toArray, List.getElem_cons_zero, List.getElem_cons_succ]
          refine wpAnyH_take (i := 12) (v := undef) rfl (by kernel_rfl) (by kernel_rfl) (by kernel_rfl) (fun _ _ _ h => h) (Or.inr ⟨by rfl, rfl⟩) (by assumption) ?_
          try simp only [Act.put, List.setIfInBounds_toArray, List.set_cons_zero, List.set_cons_succ, List.getElem_toArray, List.getElem_cons_zero, List.getElem_cons_succ]
          refine wpAnyH_take (i := 13) (v := undef) rfl (by kernel_rfl) (by kernel_rfl) (by kernel_rfl) (fun _ _ _ h => h) (Or.inr ⟨by rfl, rfl⟩) (by assumption) ?_
          try simp only [Act.put, List.setIfInBounds_toArray, List.set_cons_zero, List.set_cons_succ, List.getElem_toArray, List.getElem_cons_zero, List.getElem_cons_succ]
          refine wpAnyH_take (i := 14) (v := undef) rfl (by kernel_rfl) (by kernel_rfl) (by kernel_rfl) (fun _ _ _ h => h) (Or.inr ⟨by rfl, rfl⟩) (by assumption) ?_
          try simp only [Act.put, List.setIfInBounds_toArray, List.set_cons_zero, List.set_cons_succ, List.getElem_toArray, List.getElem_cons_zero, List.getElem_cons_succ]
          refine wpAnyH_take (i := 15) (v := ?_) rfl (by kernel_rfl) (by kernel_rfl) (by kernel_rfl) (fun _ _ _ h => h) (Or.inl ⟨by rfl, ?_⟩) (by assumption) ?_
          rotate_left 1
          · (intro w' hSw; (try dsimp only at hSw); go_simp; try with_reducible rfl)
          try simp only [Act.put, List.setIfInBounds_toArray, List.set_cons_zero, List.set_cons_succ, List.getElem_toArray, List.getElem_cons_zero, List.getElem_cons_succ]
          refine wpAnyH_take (i := 16) (v := ?_) rfl (by kernel_rfl) (by kernel_rfl) (by kernel_rfl) (fun _ _ _ h => h) (Or.inl ⟨by rfl, ?_⟩) (by assumption) ?_
          rotate_left 1
          · (intro w' hSw; (try dsimp only at hSw); go_simp; try with_reducible rfl)
          try simp only [Act.put, List.setIfInBounds_toArray, List.set_cons_zero, List.set_cons_succ, List.getElem_toArray, List.getElem_cons_zero, List.getElem_cons_succ]
          refine wpAnyH_take (i := 17) (v := ?_) rfl (by kernel_rfl) (by kernel_rfl) (by kernel_rfl) (fun _ _ _ h => h) (Or.inl ⟨by rfl, ?_⟩) (by assumption) ?_
          rotate_left 1
          · (intro w' hSw; (try dsimp only at hSw); go_simp; try with_reducible rfl)
          try simp only [Act.put, List.setIfInBounds_toArray, List.set_cons_zero, List.set_cons_succ, List.getElem_toArray, List.getElem_cons_zero, List.getElem_cons_succ]
          refine wpAnyH_take (i := 18) (v := ?_) rfl (by kernel_rfl) (by kernel_rfl) (by kernel_rfl) (fun _ _ _ h => h) (Or.inl ⟨by rfl, ?_⟩) (by assumption) ?_
          rotate_left 1
          · (intro w' hSw; (try dsimp only at hSw); go_simp; try with_reducible rfl)
          try simp only [Act.put, List.setIfInBounds_toArray, List.set_cons_zero, List.set_cons_succ, List.getElem_toArray, List.getElem_cons_zero, List.getElem_cons_succ]
          refine wpAnyH_take (i := 19) (v := ?_) rfl (by kernel_rfl) (by kernel_rfl) (by kernel_rfl) (fun _ _ _ h => h) (Or.inl ⟨by rfl, ?_⟩) (by assumption) ?_
          rotate_left 1
          · (intro w' hSw; (try dsimp only at hSw); go_simp; try with_reducible rfl)
          try simp only [Act.put, List.setIfInBounds_toArray, List.set_cons_zero, List.set_cons_succ, List.getElem_toArray, List.getElem_cons_zero, List.getElem_cons_succ]
          refine wpAnyH_take (i := 20) (v := ?_) rfl (by kernel_rfl) (by kernel_rfl) (by kernel_rfl) (fun _ _ _ h => h) (Or.inl ⟨by rfl, ?_⟩) (by assumption) ?_
          rotate_left 1
          · (intro w' hSw; (try dsimp only at hSw); go_simp; try with_reducible rfl)
          try simp only [Act.put, List.setIfInBounds_toArray, List.set_cons_zero, List.set_cons_succ, List.getElem_toArray, List.getElem_cons_zero, List.getElem_cons_succ]
          refine wpAnyH_take (i := 21) (v := ?_) rfl (by kernel_rfl) (by kernel_rfl) (by kernel_rfl) (fun _ _ _ h => h) (Or.inl ⟨by rfl, ?_⟩) (by assumption) ?_
          rotate_left 1
          · (intro w' hSw; (try dsimp only at hSw); go_simp; try with_reducible rfl)
          try simp only [Act.put, List.setIfInBounds_toArray, List.set_cons_zero, List.set_cons_succ, List.getElem_toArray, List.getElem_cons_zero, List.getElem_cons_succ]
          refine wpAnyH_take (i := 22) (v := ?_) rfl (by kernel_rfl) (by kernel_rfl) (by kernel_rfl) (fun _ _ _ h => h) (Or.inl ⟨by rfl, ?_⟩) (by assumption) ?_
          rotate_left 1
          · (intro w' hSw; (try dsimp only at hSw); go_simp; try with_reducible rfl)
          try simp only [Act.put, List.setIfInBounds_toArray, List.set_cons_zero, List.set_cons_succ, List.getElem_toArray, List.getElem_cons_zero, List.getElem_cons_succ]
          refine wpAnyH_take (i := 23) (v := ?_) rfl (by kernel_rfl) (by kernel_rfl) (by kernel_rfl) (fun _ _ _ h => h) (Or.inl ⟨by rfl, ?_⟩) (by assumption) ?_
          rotate_left 1
          · (intro w' hSw; (try dsimp only at hSw); go_simp; try with_reducible rfl)
          try simp only [Act.put, List.setIfInBounds_toArray, List.set_cons_zero, List.set_cons_succ, List.getElem_toArray, List.getElem_cons_zero, List.getElem_cons_succ]
          refine wpAnyH_take (i := 24) (v := ?_) rfl (by kernel_rfl) (by kernel_rfl) (by kernel_rfl) (fun _ _ _ h => h) (Or.inl ⟨by rfl, ?_⟩) (by assumption) ?_
          rotate_left 1
          · (intro w' hSw; (try dsimp only at hSw); go_simp; try with_reducible rfl)
          try simp only [Act.put, List.setIfInBounds_toArray, List.set_cons_zero, List.set_cons_succ, List.getElem_toArray, List.getElem_cons_zero, List.getElem_cons_succ]
          refine wpAnyH_take (i := 25) (v := ?_) rfl (by kernel_rfl) (by kernel_rfl) (by kernel_rfl) (fun _ _ _ h => h) (Or.inl ⟨by rfl, ?_⟩) (by assumption) ?_
          rotate_left 1
          · (intro w' hSw; (try dsimp only at hSw); go_simp; try with_reducible rfl)
          try simp only [Act.put, List.setIfInBounds_toArray, List.set_cons_zero, List.set_cons_succ, List.getElem_toArray, List.getElem_cons_zero, List.getElem_cons_succ]
          refine wpAnyH_take (i := 26) (v := ?_) rfl (by kernel_rfl) (by kernel_rfl) (by kernel_rfl) (fun _ _ _ h => h) (Or.inl ⟨by rfl, ?_⟩) (by assumption) ?_
          rotate_left 1
          · (intro w' hSw; (try dsimp only at hSw); go_simp; try with_reducible rfl)
          try simp only [Act.put, List.setIfInBounds_toArray, List.set_cons_zero, List.set_cons_succ, List.getElem_toArray, List.getElem_cons_zero, List.getElem_cons_succ]
          refine wpAnyH_take (i := 27) (v := ?_) rfl (by kernel_rfl) (by kernel_rfl) (by kernel_rfl) (fun _ _ _ h => h) (Or.inl ⟨by rfl, ?_⟩) (by assumption) ?_
          rotate_left 1
          · (intro w' hSw; (try dsimp only at hSw); go_simp; try with_reducible rfl)
          try simp only [Act.put, List.setIfInBounds_toArray, List.set_cons_zero, List.set_cons_succ, List.getElem_toArray, List.getElem_cons_zero, List.getElem_cons_succ]
          refine wpAnyH_take (i := 28) (v := ?_) rfl (by kernel_rfl) (by kernel_rfl) (by kernel_rfl) (fun _ _ _ h => h) (Or.inl ⟨by rfl, ?_⟩) (by assumption) ?_
          rotate_left 1
          · (intro w' hSw; (try dsimp only at hSw); go_simp; try with_reducible rfl)
          try simp only [Act.put, List.setIfInBounds_toArray, List.set_cons_zero, List.set_cons_succ, List.getElem_toArray, List.getElem_cons_zero, List.getElem_cons_succ]
          refine wpAnyH_done (by kernel_rfl) ?_ _
          replace KKA := hik (KKA.out.trans KW.out)
          clear SA KW hHeld
          go_wp2
          go_ret
          exact ⟨ret_bool (HNO.out (by cases hf : ftk G V k with | false => rfl | true => exact absurd (HD.out.1 hf) (by omega))).symm, KKA.out⟩
      have n8 : (op9 == 8) = false := by simpa using e8
      have HD := hik (show ftk G V k = true by rw [HD.out, if_neg e7, if_neg e8])
      have KA := hik ((Chg.refl nob wi).alloc (.cells #[.int .i64 op9, .int .i64 ga, .int .i64 gb, .int .i64 gk] 51))
      have KKA := hik (HK.out.trans KA.out)
      have XA := hik (KA.out.look HX.out)
      have g0 : World.cell? (wi.alloc (.cells #[.int .i64 op9, .int .i64 ga, .int .i64 gb, .int .i64 gk] 51)) ⟨wi.heap.size, 0, none⟩ = some (.int .i64 op9) := by go_simp
      have g1 : World.cell? (wi.alloc (.cells #[.int .i64 op9, .int .i64 ga, .int .i64 gb, .int .i64 gk] 51)) ⟨wi.heap.size, 1, none⟩ = some (.int .i64 ga) := by go_simp
      have g2 : World.cell? (wi.alloc (.cells #[.int .i64 op9, .int .i64 ga, .int .i64 gb, .int .i64 gk] 51)) ⟨wi.heap.size, 2, none⟩ = some (.int .i64 gb) := by go_simp
      go_upto_region 5 with fail
      clear c0 c1 c2 c3 KA x0
      generalize wi.alloc (.cells #[.int .i64 op9, .int .i64 ga, .int .i64 gb, .int .i64 gk] 51) = W2 at KKA XA g0 g1 g2  ⊢
      have KW := hik ((Chg.refl nob W2).drew1)
      have SA := hik (fun (WW : World) (kW : Chg nob W2 WW) => (show (WW.cell? ⟨wi.heap.size, 0, none⟩ = some (.int .i64 op9) ∧ WW.cell? ⟨wi.heap.size, 1, none⟩ = some (.int .i64 ga) ∧ WW.cell? ⟨wi.heap.size, 2, none⟩ = some (.int .i64 gb)) from ⟨kW.see g0, kW.see g1, kW.see g2⟩))
      refine wp_region_held_drew (S := fun w' => w'.cell? ⟨wi.heap.size, 0, none⟩ = some (.int .i64 op9) ∧ w'.cell? ⟨wi.heap.size, 1, none⟩ = some (.int .i64 ga) ∧ w'.cell? ⟨wi.heap.size, 2, none⟩ = some (.int .i64 gb)) (by kernel_rfl) ⟨g0, g1, g2⟩ (fun hHeld => ?_)
      refine wpAnyH_take (i := 0) (v := ?_) rfl (by kernel_rfl) (by kernel_rfl) (by kernel_rfl) (fun _ _ _ h => h) (Or.inl ⟨by rfl, ?_⟩) (by assumption) ?_
      rotate_left 1
      · (intro w' hSw; (try dsimp only at hSw); go_simp; try with_reducible rfl)
      try simp only [Act.put, List.setIfInBounds_toArray, List.set_cons_zero, List.set_cons_succ, List.getElem_toArray, List.getElem_cons_zero, List.getElem_cons_succ]
      refine wpAnyH_take (i := 1) (v := ?_) rfl (by kernel_rfl) (by kernel_rfl) (by kernel_rfl) (fun _ _ _ h => h) (Or.inl ⟨by rfl, ?_⟩) (by assumption) ?_
      rotate_left 1
      · (intro w' hSw; (try dsimp only at hSw); go_simp; try with_reducible rfl)
      try simp only [Act.put, List.setIfInBounds_toArray, List.set_cons_zero, List.set_cons_succ, List.getElem_toArray, List.getElem_cons_zero, List.getElem_cons_succ]
      refine wpAnyH_take (i := 2) (v := ?_) rfl (by kernel_rfl) (by kernel_rfl) (by kernel_rfl) (fun _ _ _ h => h) (Or.inl ⟨by rfl, ?_⟩) (by assumption) ?_
      rotate_left 1
      · (intro w' hSw; (try dsimp only at hSw); go_simp; try with_reducible rfl)
      try simp only [Act.put, List.setIfInBounds_toArray, List.set_cons_zero, List.set_cons_succ, List.getElem_toArray, List.getElem_cons_zero, List.getElem_cons_succ]
      refine wpAnyH_take (i := 3) (v := ?_) rfl (by kernel_rfl) (by kernel_rfl) (by kernel_rfl) (fun _ _ _ h => h) (Or.inl ⟨by rfl, ?_⟩) (by assumption) ?_
      rotate_left 1
      · (intro w' hSw; (try dsimp only at hSw); go_simp; try with_reducible rfl)
      try simp only [Act.put, List.setIfInBounds_toArray, List.set_cons_zero, List.set_cons_succ, List.getElem_toArray, List.getElem_cons_zero, List.getElem_cons_succ]
      refine wpAnyH_take (i := 4) (v := undef) rfl (by kernel_rfl) (by kernel_rfl) (by kernel_rfl) (fun _ _ _ h => h) (Or.inr ⟨by rfl, rfl⟩) (by assumption) ?_
      try simp only [Act.put, List.setIfInBounds_toArray, List.set_cons_zero, List.set_cons_succ, List.getElem_toArray, List.getElem_cons_zero, List.getElem_cons_succ]
      refine wpAnyH_take (i := 5) (v := undef) rfl (by kernel_rfl) (by kernel_rfl) (by kernel_rfl) (fun _ _ _ h => h) (Or.inr ⟨by rfl, rfl⟩) (by assumption) ?_
      try simp only [Act.put, List.setIfInBounds_toArray, List.set_cons_zero, List.set_cons_succ, List.getElem_toArray, List.getElem_cons_zero, List.getElem_cons_succ]
      refine wpAnyH_take (i := 6) (v := undef) rfl (by kernel_rfl) (by kernel_rfl) (by kernel_rfl) (fun _ _ _ h => h) (Or.inr ⟨by rfl, rfl⟩) (by assumption) ?_
      try simp only [Act.put, List.setIfInBounds_toArray, List.set_cons_zero, List.set_cons_succ, List.getElem_toArray, List.getElem_cons_zero, List.getElem_cons_succ]
      refine wpAnyH_take (i := 7) (v := undef) rfl (by kernel_rfl) (by kernel_rfl) (by kernel_rfl) (fun _ _ _ h => h) (Or.inr ⟨by rfl, rfl⟩) (by assumption) ?_
      try simp only [Act.put, List.setIfInBounds_toArray, List.set_cons_zero, List.set_cons_succ, List.getElem_toArray, List.getElem_cons_zero, List.getElem_cons_succ]
      refine wpAnyH_take (i := 8) (v := undef) rfl (by kernel_rfl) (by kernel_rfl) (by kernel_rfl) (fun _ _ _ h => h) (Or.inr ⟨by rfl, rfl⟩) (by assumption) ?_
      try simp only [Act.put, List.setIfInBounds_toArray, List.set_cons_zero, List.set_cons_succ, List.getElem_toArray, List.getElem_cons_zero, List.getElem_cons_succ]
      refine wpAnyH_take (i := 9) (v := undef) rfl (by kernel_rfl) (by kernel_rfl) (by kernel_rfl) (fun _ _ _ h => h) (Or.inr ⟨by rfl, rfl⟩) (by assumption) ?_
      try simp only [Act.put, List.setIfInBounds_toArray, List.set_cons_zero, List.set_cons_succ, List.getElem_toArray, List.getElem_cons_zero, List.getElem_cons_succ]
      refine wpAnyH_take (i := 10) (v := undef) rfl (by kernel_rfl) (by kernel_rfl) (by kernel_rfl) (fun _ _ _ h => h) (Or.inr ⟨by rfl, rfl⟩) (by assumption) ?_
      try simp only [Act.put, List.setIfInBounds_toArray, List.set_cons_zero, List.set_cons_succ, List.getElem_toArray, List.getElem_cons_zero, List.getElem_cons_succ]
      refine wpAnyH_take (i := 11) (v := undef) rfl (by kernel_rfl) (by kernel_rfl) (by kernel_rfl) (fun _ _ _ h => h) (Or.inr ⟨by rfl, rfl⟩) (by assumption) ?_
      try simp only [Act.put, List.setIfInBounds_toArray, List.set_cons_zero, List.set_cons_succ, List.getElem_toArray, List.getElem_cons_zero, List.getElem_cons_succ]
      refine wpAnyH_take (i := 12) (v := undef) rfl (by kernel_rfl) (by kernel_rfl) (by kernel_rfl) (fun _ _ _ h => h) (Or.inr ⟨by rfl, rfl⟩) (by assumption) ?_
      try simp only [Act.put, List.setIfInBounds_toArray, List.set_cons_zero, List.set_cons_succ, List.getElem_toArray, List.getElem_cons_zero, List.getElem_cons_succ]
      refine wpAnyH_take (i := 13) (v := undef) rfl (by kernel_rfl) (by kernel_rfl) (by kernel_rfl) (fun _ _ _ h => h) (Or.inr ⟨by rfl, rfl⟩) (by assumption) ?_
      try simp only [Act.put, List.setIfInBounds_toArray, List.set_cons_zero, List.set_cons_succ, List.getElem_toArray, List.getElem_cons_zero, List.getElem_cons_succ]
      refine wpAnyH_take (i := 14) (v := undef) rfl (by kernel_rfl) (by kernel_rfl) (by kernel_rfl) (fun _ _ _ h => h) (Or.inr ⟨by rfl, rfl⟩) (by assumption) ?_
      try simp only [Act.put, List.setIfInBounds_toArray, List.set_cons_zero, List.set_cons_succ, List.getElem_toArray, List.getElem_cons_zero, List.getElem_cons_succ]
      refine wpAnyH_take (i := 15) (v := ?_) rfl (by kernel_rfl) (by kernel_rfl) (by kernel_rfl) (fun _ _ _ h => h) (Or.inl ⟨by rfl, ?_⟩) (by assumption) ?_
      rotate_left 1
      · (intro w' hSw; (try dsimp only at hSw); go_simp; try with_reducible rfl)
      try simp only [Act.put, List.setIfInBounds_toArray, List.set_cons_zero, List.set_cons_succ, List.getElem_toArray, List.getElem_cons_zero, List.getElem_cons_succ]
      refine wpAnyH_take (i := 16) (v := ?_) rfl (by kernel_rfl) (by kernel_rfl) (by kernel_rfl) (fun _ _ _ h => h) (Or.inl ⟨by rfl, ?_⟩) (by assumption) ?_
      rotate_left 1
      · (intro w' hSw; (try dsimp only at hSw); go_simp; try with_reducible rfl)
      try simp only [Act.put, List.setIfInBounds_toArray, List.set_cons_zero, List.set_cons_succ, List.getElem_toArray, List.getElem_cons_zero, List.getElem_cons_succ]
      refine wpAnyH_take (i := 17) (v := ?_) rfl (by kernel_rfl) (by kernel_rfl) (by kernel_rfl) (fun _ _ _ h => h) (Or.inl ⟨by rfl, ?_⟩) (by assumption) ?_
      rotate_left 1
      · (intro w' hSw; (try dsimp only at hSw); go_simp; try with_reducible rfl)
      try simp only [Act.put, List.setIfInBounds_toArray, List.set_cons_zero, List.set_cons_succ, List.getElem_toArray, List.getElem_cons_zero, List.getElem_cons_succ]
      refine wpAnyH_take (i := 18) (v := ?_) rfl (by kernel_rfl) (by kernel_rfl) (by kernel_rfl) (fun _ _ _ h => h) (Or.inl ⟨by rfl, ?_⟩) (by assumption) ?_
      rotate_left 1
      · (intro w' hSw; (try dsimp only at hSw); go_simp; try with_reducible rfl)
      try simp only [Act.put, List.setIfInBounds_toArray, List.set_cons_zero, List.set_cons_succ, List.getElem_toArray, List.getElem_cons_zero, List.getElem_cons_succ]
      refine wpAnyH_take (i := 19) (v := ?_) rfl (by kernel_rfl) (by kernel_rfl) (by kernel_rfl) (fun _ _ _ h => h) (Or.inl ⟨by rfl, ?_⟩) (by assumption) ?_
      rotate_left 1
      · (intro w' hSw; (try dsimp only at hSw); go_simp; try with_reducible rfl)
      try simp only [Act.put, List.setIfInBounds_toArray, List.set_cons_zero, List.set_cons_succ, List.getElem_toArray, List.getElem_cons_zero, List.getElem_cons_succ]
      refine wpAnyH_take (i := 20) (v := ?_) rfl (by kernel_rfl) (by kernel_rfl) (by kernel_rfl) (fun _ _ _ h => h) (Or.inl ⟨by rfl, ?_⟩) (by assumption) ?_
      rotate_left 1
      · (intro w' hSw; (try dsimp only at hSw); go_simp; try with_reducible rfl)
      try simp only [Act.put, List.setIfInBounds_toArray, List.set_cons_zero, List.set_cons_succ, List.getElem_toArray, List.getElem_cons_zero, List.getElem_cons_succ]
      refine wpAnyH_take (i := 21) (v := undef) rfl (by kernel_rfl) (by kernel_rfl) (by kernel_rfl) (fun _ _ _ h => h) (Or.inr ⟨by rfl, rfl⟩) (by assumption) ?_
      try simp only [Act.put, List.setIfInBounds_toArray, List.set_cons_zero, List.set_cons_succ, List.getElem_toArray, List.getElem_cons_zero, List.getElem_cons_succ]
      refine wpAnyH_take (i := 22) (v := undef) rfl (by kernel_rfl) (by kernel_rfl) (by kernel_rfl) (fun _ _ _ h => h) (Or.inr ⟨by rfl, rfl⟩) (by assumption) ?_
      try simp only [Act.put, List.setIfInBounds_toArray, List.set_cons_zero, List.set_cons_succ, List.getElem_toArray, List.getElem_cons_zero, List.getElem_cons_succ]
      refine wpAnyH_take (i := 23) (v := undef) rfl (by kernel_rfl) (by kernel_rfl) (by kernel_rfl) (fun _ _ _ h => h) (Or.inr ⟨by rfl, rfl⟩) (by assumption) ?_
      try simp only [Act.put, List.setIfInBounds_toArray, List.set_cons_zero, List.set_cons_succ, List.getElem_toArray, List.getElem_cons_zero, List.getElem_cons_succ]
      refine wpAnyH_take (i := 24) (v := undef) rfl (by kernel_rfl) (by kernel_rfl) (by kernel_rfl) (fun _ _ _ h => h) (Or.inr ⟨by rfl, rfl⟩) (by assumption) ?_
      try simp only [Act.put, List.setIfInBounds_toArray, List.set_cons_zero, List.set_cons_succ, List.getElem_toArray, List.getElem_cons_zero, List.getElem_cons_succ]
      refine wpAnyH_take (i := 25) (v := undef) rfl (by kernel_rfl) (by kernel_rfl) (by kernel_rfl) (fun _ _ _ h => h) (Or.inr ⟨by rfl, rfl⟩) (by assumption) ?_
      try simp only [Act.put, List.setIfInBounds_toArray, List.set_cons_zero, List.set_cons_succ, List.getElem_toArray, List.getElem_cons_zero, List.getElem_cons_succ]
      refine wpAnyH_take (i := 26) (v := undef) rfl (by kernel_rfl) (by kernel_rfl) (by kernel_rfl) (fun _ _ _ h => h) (Or.inr ⟨by rfl, rfl⟩) (by assumption) ?_
      try simp only [Act.put, List.setIfInBounds_toArray, List.set_cons_zero, List.set_cons_succ, List.getElem_toArray, List.getElem_cons_zero, List.getElem_cons_succ]
      refine wpAnyH_take (i := 27) (v := ?_) rfl (by kernel_rfl) (by kernel_rfl) (by kernel_rfl) (fun _ _ _ h => h) (Or.inl ⟨by rfl, ?_⟩) (by assumption) ?_
      rotate_left 1
      · (intro w' hSw; (try dsimp only at hSw); go_simp; try with_reducible rfl)
      try simp only [Act.put, List.setIfInBounds_toArray, List.set_cons_zero, List.set_cons_succ, List.getElem_toArray, List.getElem_cons_zero, List.getElem_cons_succ]
      refine wpAnyH_take (i := 28) (v := ?_) rfl (by kernel_rfl) (by kernel_rfl) (by kernel_rfl) (fun _ _ _ h => h) (Or.inl ⟨by rfl, ?_⟩) (by assumption) ?_
      rotate_left 1
      · (intro w' hSw; (try dsimp only at hSw); go_simp; try with_reducible rfl)
      try simp only [Act.put, List.setIfInBounds_toArray, List.set_cons_zero, List.set_cons_succ, List.getElem_toArray, List.getElem_cons_zero, List.getElem_cons_succ]
      refine wpAnyH_done (by kernel_rfl) ?_ _
      replace KKA := hik (KKA.out.trans KW.out)
      replace XA := hik (KW.out.look XA.out)
      clear SA KW hHeld
      go_wp2
      go_roundw
      case rel => exact ⟨k + 1, by omega, by go_num, hik (by rw [HST.out, HF.out]; rw [HD.out]; rfl), KKA, XA⟩
      case measure => simp [intOf]; omega
    · obtain rfl : k = n := by omega
      go_wp2
      go_ret
      exact ⟨ret_bool HF.out.symm, HK.out⟩

end Go.Proofs.YtgimmmmiodlepabDoor
