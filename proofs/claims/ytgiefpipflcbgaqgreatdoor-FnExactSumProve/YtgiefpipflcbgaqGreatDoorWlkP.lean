/- The walk of the law of SumProve, under the supposition that the program's SumProve answers as its contract says. -/
import Derived.Test.YtgiefpipflcbgaqGreatDoorBzas
import Derived.Test.YtgiefpipflcbgaqGreatDoorBzam
import Derived.Test.YtgiefpipflcbgaqGreatDoorBzad
import Derived.Test.YtgiefpipflcbgaqGreatDoorBzae
import Derived.Test.YtgiefpipflcbgaqGreatDoorKecU
import Derived.Deep.DeepCutAuto
import Derived.Deep.RegionHeld3
namespace Go.Proofs.YtgiefpipflcbgaqGreatDoor
open Go.ChangeShapes Go.WideShapes Go.ChangeAt Go.RowKit
set_option linter.unusedVariables false
set_option maxRecDepth 100000
set_option linter.unusedSimpArgs false

set_option maxHeartbeats 8000000 in
theorem walkProve (proveX_any : ∀ (K : Int) (c : Option Addr) (n cap : Nat) (A : Nat → Option Addr) (L C : Nat → Nat) (f g : Nat → Nat → Int) (cs : Option Addr) (len caps : Nat) (fs gs : Nat → Int) (at' : Int) (st : ByteArray) (ct : Int) (w : World) (h : Hid (RowsV w c n A L C f g)) (hL : Hid (∀ i, i < n → L i ≤ 1099511627776)) (hn : n ≤ 1099511627776) (hs : Hid (PairV w cs len fs gs)) (hl : (len : Int) ≤ 9223372036854775807) (hst : (st.size : Int) ≤ 9223372036854775807) (ht : Hid (Tabs w)), Calls Tryz.prog 10 #[.int .i64 K, .slice c n cap, .agg #[.slice cs len caps, .int .i64 at', .string st, .int .i64 ct]] w fun e w' => PIAns w (spc8 K n L f g fs gs len at' st ct) (scn (spc8 K n L f g fs gs len at' st ct) (Nat.log2 (L 0))) (scn (spc8 K n L f g fs gs len at' st ct) (K.toNat + 2)) (scn (spc8 K n L f g fs gs len at' st ct) n) (scn (spc8 K n L f g fs gs len at' st ct) len) (prd K.toNat fs gs len (Nat.log2 (L 0)) ⟨fun i => elF (f i) (g i), at', st, ct⟩) (ppt K.toNat fs gs len (Nat.log2 (L 0)) ⟨fun i => elF (f i) (g i), at', st, ct⟩) (pvl K.toNat fs gs len (Nat.log2 (L 0)) ⟨fun i => elF (f i) (g i), at', st, ct⟩) fs gs (scI (spc8 K n L f g fs gs len at' st ct) (pst K.toNat fs gs len (Nat.log2 (L 0)) ⟨fun i => elF (f i) (g i), at', st, ct⟩ (Nat.log2 (L 0))).a) (scS (spc8 K n L f g fs gs len at' st ct) (pst K.toNat fs gs len (Nat.log2 (L 0)) ⟨fun i => elF (f i) (g i), at', st, ct⟩ (Nat.log2 (L 0))).s) (scI (spc8 K n L f g fs gs len at' st ct) (pst K.toNat fs gs len (Nat.log2 (L 0)) ⟨fun i => elF (f i) (g i), at', st, ct⟩ (Nat.log2 (L 0))).c) e w') (a0 : Int) (w0 : (Lit.int .i64 a0).wf = true) (c1 : Option Addr) (len1 cap1 : Nat) (A1 : Nat → Option Addr) (L1 C1 : Nat → Nat) (f1 g1 : Nat → Nat → Int) (c2 : Option Addr) (len2 cap2 : Nat) (f2 g2 : Nat → Int) (at2 : Int) (st2 : ByteArray) (ct2 : Int) (ws2 : st2.size ≤ maxLen) (w : World) (w1 : IsRows w c1 len1 A1 L1 C1 f1 g1) (w2 : IsPairs w c2 len2 cap2 f2 g2) (ht : Hid (Tabs w)) :
    Calls Tryz.prog 3 #[.int .i64 a0, .slice c1 len1 cap1, .agg #[.slice c2 len2 cap2, .int .i64 at2, .string st2, .int .i64 ct2]] w fun e w' => e = .returned (.bool true) ∧ Below w.heap.size w w' := by
  obtain ⟨hl1, hP1, hL1⟩ := w1
  have HP1 := hik hP1
  have HL1 := hik hL1
  obtain ⟨hP2, hl2⟩ := pairs_of w2
  have HP2 := hik hP2
  have hs2 : (st2.size : Int) ≤ 9223372036854775807 := by unfold maxLen at ws2; omega
  clear hP1 hL1 hP2 w2 ws2
  by_cases hm : (1048576 : Int) < (len1 : Int) + (tot L1 len1 : Int)
  · go_enter Tryz.func3, Tryz.ntmps3
    go_wp2_with fail
    refine (szSS_n _ len1 _ A1 L1 C1 f1 g1 _ _ (hik (RowsV.keep HP1.out ((Chg.refl nob w).alloc _))) HL1 hl1 hm (by omega) (by omega)).mono ?_
    rintro e W1 ⟨rfl, k1⟩
    go_wp2
    go_ret
    exact ⟨rfl, (((Chg.refl nob w).alloc _).trans k1).belowAll⟩
  clear HL1
  have hn1 : len1 ≤ 1048576 := by omega
  have hT1 : tot L1 len1 ≤ 1048576 := by omega
  have hp : ¬ (1048576 : Int) - (len1 : Int) - (tot L1 len1 : Int) < 0 := by omega
  have HL := hik (show ∀ i, i < len1 → L1 i ≤ 1099511627776 from fun i hi => by have := tot_le L1 hi; omega)
  have hn1' : len1 ≤ 1099511627776 := by omega
  obtain ⟨lf, hlf⟩ : ∃ lf, lf = (1048576 : Int) - (len1 : Int) - (tot L1 len1 : Int) := ⟨_, rfl⟩
  rw [← hlf] at hp
  have hlf2 : lf ≤ 1048576 := by omega
  have HLF := hik hlf
  have hm0 : (len1 : Int) + (tot L1 len1 : Int) ≤ 1048576 := by omega
  clear hlf hm
  by_cases h2 : lf < (len2 : Int) + (st2.size : Int)
  · go_enter Tryz.func3, Tryz.ntmps3
    go_wp2_with fail
    refine (szSS_c _ len1 _ A1 L1 C1 f1 g1 _ _ (hik (RowsV.keep HP1.out ((Chg.refl nob w).alloc _))) hm0 (by omega)).mono ?_
    rintro e W1 ⟨he, k1⟩
    rw [← HLF.out] at he
    subst he
    have A := hik (rowIs_keep (row4_new w (.slice c2 len2 cap2) (.int .i64 at2) (.string st2) (.int .i64 ct2) 25) k1)
    have G := hik (((Chg.refl nob w).alloc _).trans k1)
    have xA0 : W1.cell? ⟨w.heap.size, 0, none⟩ = some (.slice c2 len2 cap2) := A.out.cell (by omega)
    have xA1 : W1.cell? ⟨w.heap.size, 1, none⟩ = some (.int .i64 at2) := A.out.cell (by omega)
    have xA2 : W1.cell? ⟨w.heap.size, 2, none⟩ = some (.string st2) := A.out.cell (by omega)
    have xA3 : W1.cell? ⟨w.heap.size, 3, none⟩ = some (.int .i64 ct2) := A.out.cell (by omega)
    clear k1
    go_wp2_with fail
    refine (szSource_no _ _ _ _ _ _ _ _ h2 (by omega) (by omega) hl2 hs2).mono ?_
    rintro e W2 ⟨rfl, k2⟩
    go_wp2
    go_ret
    exact ⟨rfl, (G.out.trans k2).belowAll⟩
  have hn2 : len2 ≤ 1099511627776 := by omega
  have hp2 : ¬ lf - (len2 : Int) - (st2.size : Int) < 0 := by omega
  obtain ⟨q, hq⟩ : ∃ q, q = spc8 a0 len1 L1 f1 g1 f2 g2 len2 at2 st2 ct2 := ⟨_, rfl⟩
  obtain ⟨nR, hnR⟩ : ∃ x, x = scn q (Nat.log2 (L1 0)) := ⟨_, rfl⟩
  obtain ⟨m, hmm⟩ : ∃ x, x = scn q (a0.toNat + 2) := ⟨_, rfl⟩
  obtain ⟨nV, hnV⟩ : ∃ x, x = scn q len1 := ⟨_, rfl⟩
  obtain ⟨nS, hnS⟩ : ∃ x, x = scn q len2 := ⟨_, rfl⟩
  obtain ⟨Gg, hGg⟩ : ∃ x, x = prd a0.toNat f2 g2 len2 (Nat.log2 (L1 0)) ⟨fun i => elF (f1 i) (g1 i), at2, st2, ct2⟩ := ⟨_, rfl⟩
  obtain ⟨Rr, hRr⟩ : ∃ x, x = ppt a0.toNat f2 g2 len2 (Nat.log2 (L1 0)) ⟨fun i => elF (f1 i) (g1 i), at2, st2, ct2⟩ := ⟨_, rfl⟩
  obtain ⟨Vv, hVv⟩ : ∃ x, x = pvl a0.toNat f2 g2 len2 (Nat.log2 (L1 0)) ⟨fun i => elF (f1 i) (g1 i), at2, st2, ct2⟩ := ⟨_, rfl⟩
  obtain ⟨aa, haa⟩ : ∃ x, x = scI q (pst a0.toNat f2 g2 len2 (Nat.log2 (L1 0)) ⟨fun i => elF (f1 i) (g1 i), at2, st2, ct2⟩ (Nat.log2 (L1 0))).a := ⟨_, rfl⟩
  obtain ⟨ss, hss⟩ : ∃ x, x = scS q (pst a0.toNat f2 g2 len2 (Nat.log2 (L1 0)) ⟨fun i => elF (f1 i) (g1 i), at2, st2, ct2⟩ (Nat.log2 (L1 0))).s := ⟨_, rfl⟩
  obtain ⟨cc, hcc⟩ : ∃ x, x = scI q (pst a0.toNat f2 g2 len2 (Nat.log2 (L1 0)) ⟨fun i => elF (f1 i) (g1 i), at2, st2, ct2⟩ (Nat.log2 (L1 0))).c := ⟨_, rfl⟩
  have bd := spc8_le hq
  rw [← hnR, ← hmm, ← hnV, ← hnS] at bd
  obtain ⟨bd1, bd2, bd3, bd4⟩ := bd
  have hm1 : nR = 0 ∨ 1 ≤ m := by
    rw [hnR, hmm]
    unfold scn
    split
    · exact .inr (by omega)
    · exact .inl rfl
  have HS := hik (fun (c : Option Addr) (A : Nat → Option Addr) (C : Nat → Nat) (cs : Option Addr) (w' : World) (h : Hid (RowsV w' c len1 A L1 C f1 g1)) (h2 : Hid (PairV w' cs len2 f2 g2)) => sProveX_any a0 c len1 len1 A L1 C f1 g1 cs len2 len2 f2 g2 at2 st2 ct2 w' h HL hn1' h2 hl2 hs2)
  have HI := hik (fun (c : Option Addr) (A : Nat → Option Addr) (C : Nat → Nat) (cs : Option Addr) (w' : World) (h : Hid (RowsV w' c len1 A L1 C f1 g1)) (h2 : Hid (PairV w' cs len2 f2 g2)) (ht : Hid (Tabs w')) => proveX_any a0 c len1 len1 A L1 C f1 g1 cs len2 len2 f2 g2 at2 st2 ct2 w' h HL hn1' h2 hl2 hs2 ht)
  rw [← hq, ← hnR, ← hmm, ← hnV, ← hnS, ← hGg, ← hRr, ← hVv, ← haa, ← hss, ← hcc] at HS HI
  clear hq hnR hmm hnV hnS hGg hRr hVv haa hss hcc
  obtain ⟨p, hpp⟩ : ∃ p, p = nR * m := ⟨_, rfl⟩
  have HPM := hik hpp
  have hp24 : p ≤ 24 := by rw [hpp]; exact Nat.mul_le_mul bd1 bd2
  clear hpp
  have HLM := hik (show ∀ i, i < nR → (fun _ : Nat => m) i ≤ 1099511627776 from fun i _ => by show m ≤ _; omega)
  have t1 : ¬ (1 : Int) + 2 * (p : Int) < 0 := by omega
  have t2 : ¬ (1 : Int) + 2 * (p : Int) + 2 * (nR : Int) < 0 := by omega
  have t3 : ¬ (1 : Int) + 2 * (p : Int) + 2 * (nR : Int) + 2 * (nV : Int) < 0 := by omega
  have t4 : ¬ (1 : Int) + 2 * (p : Int) + 2 * (nR : Int) + 2 * (nV : Int) + 2 * (nS : Int) < 0 := by omega
  have t5 : ¬ (1 : Int) + 2 * (tot L1 len1 : Int) + 2 * (len2 : Int) < 0 := by omega
  have BD := hik (show nR ≤ 6 ∧ m ≤ 4 ∧ nV ≤ 4 ∧ nS ≤ 64 from ⟨bd1, bd2, bd3, bd4⟩)
  have HM1 := hik hm1
  have LL2 : (len2 : Int) + (st2.size : Int) ≤ lf := by omega
  have HH2 := hik LL2
  clear bd1 bd2 bd3 bd4 hm1 hl1 hl2 h2 LL2
  go_enter Tryz.func3, Tryz.ntmps3
  go_upto_region 1 with fail
  have G := hik ((Chg.refl nob w).alloc (.cells #[.slice c2 len2 cap2, .int .i64 at2, .string st2, .int .i64 ct2] 25))
  have kk := (Chg.refl nob w).alloc (.cells #[.slice c2 len2 cap2, .int .i64 at2, .string st2, .int .i64 ct2] 25)
  have A := hik (row4_new w (.slice c2 len2 cap2) (.int .i64 at2) (.string st2) (.int .i64 ct2) 25)
  have s1 := hik (show w.heap.size + 1 = (w.alloc (.cells #[.slice c2 len2 cap2, .int .i64 at2, .string st2, .int .i64 ct2] 25)).heap.size by simp)
  clear kk
  generalize hE : w.alloc (.cells #[.slice c2 len2 cap2, .int .i64 at2, .string st2, .int .i64 ct2] 25) = W1 at A s1 G ⊢
  clear hE
  go_wp2_with fail
  refine (szSS_c _ len1 _ A1 L1 C1 f1 g1 _ _ (hik (RowsV.keep HP1.out G.out)) hm0 (by omega)).mono ?_
  rintro e W2 ⟨he, kk⟩
  have s2 := hik kk.size
  replace G := hik (G.out.trans kk)
  replace A := hik (rowIs_keep A.out kk)
  rw [← HLF.out] at he
  subst he
  clear kk
  have zA : w.heap.size < W2.heap.size := A.out.lt
  have xA0 : W2.cell? ⟨w.heap.size, 0, none⟩ = some (.slice c2 len2 cap2) := A.out.cell (by omega)
  have xA1 : W2.cell? ⟨w.heap.size, 1, none⟩ = some (.int .i64 at2) := A.out.cell (by omega)
  have xA2 : W2.cell? ⟨w.heap.size, 2, none⟩ = some (.string st2) := A.out.cell (by omega)
  have xA3 : W2.cell? ⟨w.heap.size, 3, none⟩ = some (.int .i64 ct2) := A.out.cell (by omega)
  go_wp2_with fail
  refine (szSource_ok _ _ _ _ _ _ _ _ HH2.out hlf2).mono ?_
  rintro e W3 ⟨rfl, kk⟩
  clear zA xA0 xA1 xA2 xA3
  have s3 := hik kk.size
  replace G := hik (G.out.trans kk)
  replace A := hik (rowIs_keep A.out kk)
  clear kk
  go_upto_region 8 with fail
  go_cut [8, 9, 10, 11, 12] (fun u0 u1 u2 pp qq W => ∃ (cR cP cV cS : Option Addr) (capR capP capV capS gg : Nat) (Aw : Nat → Option Addr) (Cw : Nat → Nat), u0 = .slice cR nR capR ∧ u1 = .slice cP nR capP ∧ u2 = .slice cV nV capV ∧ pp = .pointer (some ⟨gg, 0, none⟩) ∧ qq = .int .i64 q ∧ Hid (RowsV W cR nR Aw (fun _ => m) Cw (fun i => cA (Gg i)) (fun i => cB (Gg i))) ∧ Hid (PairE W cP nR Rr) ∧ Hid (PairE W cV nV Vv) ∧ Hid (PairV W cS nS f2 g2) ∧ Hid (W.rowIs gg 31 4 (pv4 (.slice cS nS capS) (.int .i64 aa) (.string ss) (.int .i64 cc))) ∧ Hid (Chg nob W3 W) ∧ Hid (W3.heap.size ≤ gg))
  case first =>
    as_aux_lemma =>
      have zA : w.heap.size < W3.heap.size := A.out.lt
      have xA0 : W3.cell? ⟨w.heap.size, 0, none⟩ = some (.slice c2 len2 cap2) := A.out.cell (by omega)
      have xA1 : W3.cell? ⟨w.heap.size, 1, none⟩ = some (.int .i64 at2) := A.out.cell (by omega)
      have xA2 : W3.cell? ⟨w.heap.size, 2, none⟩ = some (.string st2) := A.out.cell (by omega)
      have xA3 : W3.cell? ⟨w.heap.size, 3, none⟩ = some (.int .i64 ct2) := A.out.cell (by omega)
      have KW := hik ((Chg.refl nob W3).drew1)
      have SA := hik (fun (WW : World) (kW : Chg nob W3 WW) => (show (WW.cell? ⟨w.heap.size, 0, none⟩ = some (.slice c2 len2 cap2) ∧ WW.cell? ⟨w.heap.size, 1, none⟩ = some (.int .i64 at2) ∧ WW.cell? ⟨w.heap.size, 2, none⟩ = some (.string st2) ∧ WW.cell? ⟨w.heap.size, 3, none⟩ = some (.int .i64 ct2)) from ⟨kW.see xA0, kW.see xA1, kW.see xA2, kW.see xA3⟩))
      refine wp_region_held_drew (S := fun w' => w'.cell? ⟨w.heap.size, 0, none⟩ = some (.slice c2 len2 cap2) ∧ w'.cell? ⟨w.heap.size, 1, none⟩ = some (.int .i64 at2) ∧ w'.cell? ⟨w.heap.size, 2, none⟩ = some (.string st2) ∧ w'.cell? ⟨w.heap.size, 3, none⟩ = some (.int .i64 ct2)) (by kernel_rfl) ⟨xA0, xA1, xA2, xA3⟩ (fun hHeld => ?_)
      refine wpAnyH_take (i := 0) (v := ?_) rfl (by kernel_rfl) (by kernel_rfl) (by kernel_rfl) (fun _ _ _ h => h) (Or.inl ⟨by rfl, ?_⟩) (by assumption) ?_
      rotate_left 1
      · (intro w' hSw; (try dsimp only at hSw); go_simp; try with_reducible rfl)
      try simp only [Act.put, List.setIfInBounds_toArray, List.set_cons_zero, List.set_cons_succ, List.getElem_toArray, List.getElem_cons_zero, List.getElem_cons_succ]
      refine wpAnyH_take (i := 1) (v := ?_) rfl (by kernel_rfl) (by kernel_rfl) (by kernel_rfl) (fun _ _ _ h => h) (Or.inl ⟨by rfl, ?_⟩) (by assumption) ?_
      rotate_left 1
      · (intro w' hSw; (try dsimp only at hSw); go_simp; try with_reducible rfl)
      try simp only [Act.put, List.setIfInBounds_toArray, List.set_cons_zero, List.set_cons_succ, List.getElem_toArray, List.getElem_cons_zero, List.getElem_cons_succ]
      refine wpAnyH_take (i := 3) (v := ?_) rfl (by kernel_rfl) (by kernel_rfl) (by kernel_rfl) (fun _ _ _ h => h) (Or.inl ⟨by rfl, ?_⟩) (by assumption) ?_
      rotate_left 1
      · (intro w' hSw; (try dsimp only at hSw); go_simp; try with_reducible rfl)
      try simp only [Act.put, List.setIfInBounds_toArray, List.set_cons_zero, List.set_cons_succ, List.getElem_toArray, List.getElem_cons_zero, List.getElem_cons_succ]
      refine wpAnyH_ready (rs := [2, 12]) (by kernel_rfl) (by simp) ?_
      refine AllReadyH.cons rfl (fun K hK => ?_) ?_
      · refine stepL_callN 8 #[.tmp 40] #[22] (by rfl) (by rfl) #[.slice c1 len1 cap1] (by simp only [List.map_toArray, List.map_cons, List.map_nil] <;> rfl) (run_go Tryz.func8 (by kernel_rfl) (by kernel_rfl) _ _) (toSS_any c1 len1 cap1 A1 L1 C1 f1 g1 _ (hik (RowsV.keep HP1.out (G.out.trans KW.out))) HL hn1') ?_
        rintro e U1 ⟨By, he, ry, ty, dy, kk⟩
        generalize hxb : (W3.drew).heap.size = xb at he ry ty
        clear hxb
        have RY := hik ry
        have TY := hik (show ∀ i, i < len1 → _ from fun i hi => (ty i hi).2)
        clear ry ty dy
        refine ⟨_, he, ?_⟩
        replace KW := hik (KW.out.trans kk)
        refine hK.out _ _ (SA.out _ KW.out) (fun hHeld => ?_)
        clear hK K
        try simp only [Act.put, List.setIfInBounds_toArray, List.set_cons_zero, List.set_cons_succ, List.getElem_toArray, List.getElem_cons_zero, List.getElem_cons_succ]
        clear he kk
        refine wpAnyH_ready (rs := [4, 12]) (by kernel_rfl) (by simp) ?_
        refine AllReadyH.cons rfl (fun K hK => ?_) ?_
        · refine stepL_callN 9 #[.tmp 42] #[25] (by rfl) (by rfl) #[.agg #[.slice c2 len2 cap2, .int .i64 at2, .string st2, .int .i64 ct2]] (by simp only [List.map_toArray, List.map_cons, List.map_nil] <;> rfl) (run_go Tryz.func9 (by kernel_rfl) (by kernel_rfl) _ _) (toSource_any c2 len2 cap2 f2 g2 at2 st2 ct2 _ (hik (HP2.out.keep (G.out.trans KW.out))) hn2) ?_
          rintro e U2 ⟨by_, hby, he, hry, kk⟩
          have OY := hik (OwnE.of_row hry (Nat.le_refl by_))
          replace RY := hik (rowIs_keep RY.out kk)
          replace TY := hik (show ∀ i, i < len1 → _ from fun i hi => rowIs_keep (TY.out i hi) kk)
          clear hry hby
          refine ⟨_, he, ?_⟩
          replace KW := hik (KW.out.trans kk)
          refine hK.out _ _ (SA.out _ KW.out) (fun hHeld => ?_)
          clear hK K
          try simp only [Act.put, List.setIfInBounds_toArray, List.set_cons_zero, List.set_cons_succ, List.getElem_toArray, List.getElem_cons_zero, List.getElem_cons_succ]
          clear he kk
          refine wpAnyH_ready (rs := [5, 12]) (by kernel_rfl) (by simp) ?_
          refine AllReadyH.cons rfl (fun K hK => ?_) ?_
          · refine stepL_callN 7 #[.tmp 39, .tmp 41, .tmp 43] #[3, 28, 31] (by rfl) (by rfl) #[.int .i64 a0, .slice (some ⟨xb, 0, none⟩) len1 len1, .agg #[.slice (some ⟨by_, 0, none⟩) len2 len2, .int .i64 at2, .string st2, .int .i64 ct2]] (by simp only [List.map_toArray, List.map_cons, List.map_nil] <;> rfl) (run_go Tryz.func7 (by kernel_rfl) (by kernel_rfl) _ _) (HS.out _ _ _ _ _ (hik (CopiedSS.rows (w := w) RY.out TY.out)) (hik OY.out.pairs)) ?_
            rintro e U3 ⟨cR, capR, cP, capP, cV, capV, cS, capS, he, rR, rP, rV, rS, kk⟩
            have RR := hik rR
            have RP := hik rP
            have RV := hik rV
            have RS := hik rS
            clear rR rP rV rS RY TY OY
            refine ⟨_, he, ?_⟩
            replace KW := hik (KW.out.trans kk)
            refine hK.out _ _ (SA.out _ KW.out) (fun hHeld => ?_)
            clear hK K
            try simp only [Act.put, List.setIfInBounds_toArray, List.set_cons_zero, List.set_cons_succ, List.getElem_toArray, List.getElem_cons_zero, List.getElem_cons_succ]
            clear he kk
            refine wpAnyH_take (i := 6) (v := ?_) rfl (by kernel_rfl) (by kernel_rfl) (by kernel_rfl) (fun _ _ _ h => h) (Or.inl ⟨by rfl, ?_⟩) (by assumption) ?_
            rotate_left 1
            · (intro w' hSw; (try dsimp only at hSw); go_simp; try with_reducible rfl)
            try simp only [Act.put, List.setIfInBounds_toArray, List.set_cons_zero, List.set_cons_succ, List.getElem_toArray, List.getElem_cons_zero, List.getElem_cons_succ]
            refine wpAnyH_take (i := 7) (v := ?_) rfl (by kernel_rfl) (by kernel_rfl) (by kernel_rfl) (fun _ _ _ h => h) (Or.inl ⟨by rfl, ?_⟩) (by assumption) ?_
            rotate_left 1
            · (intro w' hSw; (try dsimp only at hSw); go_simp; try with_reducible rfl)
            try simp only [Act.put, List.setIfInBounds_toArray, List.set_cons_zero, List.set_cons_succ, List.getElem_toArray, List.getElem_cons_zero, List.getElem_cons_succ]
            refine wpAnyH_take (i := 8) (v := ?_) rfl (by kernel_rfl) (by kernel_rfl) (by kernel_rfl) (fun _ _ _ h => h) (Or.inl ⟨by rfl, ?_⟩) (by assumption) ?_
            rotate_left 1
            · (intro w' hSw; (try dsimp only at hSw); go_simp; try with_reducible rfl)
            try simp only [Act.put, List.setIfInBounds_toArray, List.set_cons_zero, List.set_cons_succ, List.getElem_toArray, List.getElem_cons_zero, List.getElem_cons_succ]
            refine wpAnyH_take (i := 9) (v := ?_) rfl (by kernel_rfl) (by kernel_rfl) (by kernel_rfl) (fun _ _ _ h => h) (Or.inl ⟨by rfl, ?_⟩) (by assumption) ?_
            rotate_left 1
            · (intro w' hSw; (try dsimp only at hSw); go_simp; try with_reducible rfl)
            try simp only [Act.put, List.setIfInBounds_toArray, List.set_cons_zero, List.set_cons_succ, List.getElem_toArray, List.getElem_cons_zero, List.getElem_cons_succ]
            refine wpAnyH_take (i := 10) (v := ?_) rfl (by kernel_rfl) (by kernel_rfl) (by kernel_rfl) (fun _ _ _ h => h) (Or.inl ⟨by rfl, ?_⟩) (by assumption) ?_
            rotate_left 1
            · (intro w' hSw; (try dsimp only at hSw); go_simp; try with_reducible rfl)
            try simp only [Act.put, List.setIfInBounds_toArray, List.set_cons_zero, List.set_cons_succ, List.getElem_toArray, List.getElem_cons_zero, List.getElem_cons_succ]
            refine wpAnyH_take (i := 11) (v := ?_) rfl (by kernel_rfl) (by kernel_rfl) (by kernel_rfl) (fun _ _ _ h => h) (Or.inl ⟨by rfl, ?_⟩) (by assumption) ?_
            rotate_left 1
            · (intro w' hSw; (try dsimp only at hSw); go_simp; try with_reducible rfl)
            try simp only [Act.put, List.setIfInBounds_toArray, List.set_cons_zero, List.set_cons_succ, List.getElem_toArray, List.getElem_cons_zero, List.getElem_cons_succ]
            refine wpAnyH_ready (rs := [12]) (by kernel_rfl) (by simp) ?_
            refine AllReadyH.cons rfl (fun K hK => ?_) AllReadyH.nil
            simp only [List.getElem_toArray, List.getElem_cons_zero, List.getElem_cons_succ]
            go_simp
            obtain ⟨gA, hgA⟩ : ∃ g, g = U3.heap.size := ⟨_, rfl⟩
            have E7 : Hid (World.rowIs (World.alloc U3 (.cells #[.slice none 0 0, .int .i64 0, .string ⟨#[]⟩, .int .i64 0] 31)) U3.heap.size 31 4 (pv4 (.slice none 0 0) (.int .i64 0) (.string ⟨#[]⟩) (.int .i64 0))) := hik (row4_new U3 _ _ _ _ _)
            have lA : W3.heap.size ≤ gA := by rw [hgA]; exact KW.out.size
            replace RR := hik (((RowsQ.lt RR.out HM1.out).mono (R := fun b => b ≠ gA) (fun b hb e => by omega)).keep ((Chg.refl nob _).alloc (.cells #[.slice none 0 0, .int .i64 0, .string ⟨#[]⟩, .int .i64 0] 31)))
            replace RP := hik (RP.out.keep ((Chg.refl nob _).alloc (.cells #[.slice none 0 0, .int .i64 0, .string ⟨#[]⟩, .int .i64 0] 31)))
            replace RV := hik (RV.out.keep ((Chg.refl nob _).alloc (.cells #[.slice none 0 0, .int .i64 0, .string ⟨#[]⟩, .int .i64 0] 31)))
            replace RS := hik (RS.out.keep ((Chg.refl nob _).alloc (.cells #[.slice none 0 0, .int .i64 0, .string ⟨#[]⟩, .int .i64 0] 31)))
            replace KW : Hid (Chg nob W3 (World.alloc U3 (.cells #[.slice none 0 0, .int .i64 0, .string ⟨#[]⟩, .int .i64 0] 31))) := hik (KW.out.alloc _)
            generalize hUA : (World.alloc U3 (.cells #[.slice none 0 0, .int .i64 0, .string ⟨#[]⟩, .int .i64 0] 31)) = UA at E7 KW RR RP RV RS ⊢
            clear hUA
            rw [← hgA] at E7 ⊢
            clear hgA
            refine hK.out _ _ (SA.out _ KW.out) (fun hHeld => ?_)
            clear hK K
            try simp only [Act.put, List.setIfInBounds_toArray, List.set_cons_zero, List.set_cons_succ, List.getElem_toArray, List.getElem_cons_zero, List.getElem_cons_succ]
            refine wpAnyH_take (i := 13) (v := ?_) rfl (by kernel_rfl) (by kernel_rfl) (by kernel_rfl) (fun _ _ _ h => h) (Or.inl ⟨by rfl, ?_⟩) (by assumption) ?_
            rotate_left 1
            · (intro w' hSw; (try dsimp only at hSw); go_simp; try with_reducible rfl)
            try simp only [Act.put, List.setIfInBounds_toArray, List.set_cons_zero, List.set_cons_succ, List.getElem_toArray, List.getElem_cons_zero, List.getElem_cons_succ]
            refine wpAnyH_take (i := 14) (v := ?_) rfl (by kernel_rfl) (by kernel_rfl) (by kernel_rfl) (fun _ _ _ h => h) (Or.inl ⟨by rfl, ?_⟩) (by assumption) ?_
            rotate_left 1
            · (intro w' hSw; (try dsimp only at hSw); go_simp; try with_reducible rfl)
            try simp only [Act.put, List.setIfInBounds_toArray, List.set_cons_zero, List.set_cons_succ, List.getElem_toArray, List.getElem_cons_zero, List.getElem_cons_succ]
            refine wpAnyH_take (i := 15) (v := ?_) rfl (by kernel_rfl) (by kernel_rfl) (by kernel_rfl) (fun _ _ _ h => h) (Or.inl ⟨by rfl, ?_⟩) (by assumption) ?_
            rotate_left 1
            · (intro w' hSw; (try dsimp only at hSw); go_simp; try with_reducible rfl)
            try simp only [Act.put, List.setIfInBounds_toArray, List.set_cons_zero, List.set_cons_succ, List.getElem_toArray, List.getElem_cons_zero, List.getElem_cons_succ]
            refine wpAnyH_ready (rs := [16]) (by kernel_rfl) (by simp) ?_
            refine AllReadyH.cons rfl (fun K hK => ?_) AllReadyH.nil
            have y0 : UA.cell? ⟨gA, 0, none⟩ = some (.slice none 0 0) := E7.out.cell (by omega)
            have v0 := E7.out.frozen 0
            have y1 : UA.cell? ⟨gA, 1, none⟩ = some (.int .i64 0) := E7.out.cell (by omega)
            have v1 := E7.out.frozen 1
            have y2 : UA.cell? ⟨gA, 2, none⟩ = some (.string ⟨#[]⟩) := E7.out.cell (by omega)
            have v2 := E7.out.frozen 2
            have y3 : UA.cell? ⟨gA, 3, none⟩ = some (.int .i64 0) := E7.out.cell (by omega)
            have v3 := E7.out.frozen 3
            have l7 := E7.out.lt
            have C7 := hik (chg4_set (Chg.refl (fun b => b = gA) UA) gA (fun _ => rfl) (.slice cS nS capS) (.int .i64 aa) (.string ss) (.int .i64 cc))
            simp only [List.getElem_toArray, List.getElem_cons_zero, List.getElem_cons_succ]
            go_simp
            replace KW := hik (chg4_set KW.out gA (fun l => absurd l (by omega)) (.slice cS nS capS) (.int .i64 aa) (.string ss) (.int .i64 cc))
            refine hK.out _ _ (SA.out _ KW.out) (fun hHeld => ?_)
            clear hK K
            try simp only [Act.put, List.setIfInBounds_toArray, List.set_cons_zero, List.set_cons_succ, List.getElem_toArray, List.getElem_cons_zero, List.getElem_cons_succ]
            clear y0 y1 y2 y3 v0 v1 v2 v3 l7
            replace RR := hik (RR.out.chg C7.out (fun b hb e => hb e))
            replace RP := hik (RP.out.src4 E7.out C7.out)
            replace RV := hik (RV.out.src4 E7.out C7.out)
            replace RS := hik (RS.out.src4 E7.out C7.out)
            replace E7 := hik (row4_set E7.out (.slice cS nS capS) (.int .i64 aa) (.string ss) (.int .i64 cc))
            clear C7
            generalize hUS : ((((UA.setCell ⟨gA, 0, none⟩ (.slice cS nS capS)).setCell ⟨gA, 1, none⟩ (.int .i64 aa)).setCell ⟨gA, 2, none⟩ (.string ss)).setCell ⟨gA, 3, none⟩ (.int .i64 cc)) = US at E7 KW RR RP RV RS hHeld ⊢
            clear hUS
            refine wpAnyH_take (i := 17) (v := ?_) rfl (by kernel_rfl) (by kernel_rfl) (by kernel_rfl) (fun _ _ _ h => h) (Or.inl ⟨by rfl, ?_⟩) (by assumption) ?_
            rotate_left 1
            · (intro w' hSw; (try dsimp only at hSw); go_simp; try with_reducible rfl)
            try simp only [Act.put, List.setIfInBounds_toArray, List.set_cons_zero, List.set_cons_succ, List.getElem_toArray, List.getElem_cons_zero, List.getElem_cons_succ]
            refine wpAnyH_done (by kernel_rfl) ?_ _
            obtain ⟨Aw, Cw, rv⟩ := RowsE.toV (RowsQ.toE RR.out)
            have RR2 := hik rv
            clear rv RR SA
            go_wp2_with fail
            go_meet
            exact ⟨cR, cP, cV, cS, capR, capP, capV, capS, gA, Aw, Cw, rfl, rfl, rfl, rfl, rfl, RR2, hik (OwnE.pairs RP.out), hik (OwnE.pairs RV.out), hik (OwnE.pairs RS.out), E7, KW, hik lA⟩
          · refine AllReadyH.cons rfl (fun K hK => ?_) AllReadyH.nil
            simp only [List.getElem_toArray, List.getElem_cons_zero, List.getElem_cons_succ]
            go_simp
            obtain ⟨gA, hgA⟩ : ∃ g, g = U2.heap.size := ⟨_, rfl⟩
            have E7 : Hid (World.rowIs (World.alloc U2 (.cells #[.slice none 0 0, .int .i64 0, .string ⟨#[]⟩, .int .i64 0] 31)) U2.heap.size 31 4 (pv4 (.slice none 0 0) (.int .i64 0) (.string ⟨#[]⟩) (.int .i64 0))) := hik (row4_new U2 _ _ _ _ _)
            have lA : W3.heap.size ≤ gA := by rw [hgA]; exact KW.out.size
            replace RY := hik (rowIs_keep RY.out ((Chg.refl nob _).alloc (.cells #[.slice none 0 0, .int .i64 0, .string ⟨#[]⟩, .int .i64 0] 31)))
            replace TY := hik (show ∀ i, i < len1 → _ from fun i hi => rowIs_keep (TY.out i hi) ((Chg.refl nob _).alloc (.cells #[.slice none 0 0, .int .i64 0, .string ⟨#[]⟩, .int .i64 0] 31)))
            replace OY := hik (OY.out.keep ((Chg.refl nob _).alloc (.cells #[.slice none 0 0, .int .i64 0, .string ⟨#[]⟩, .int .i64 0] 31)))
            replace KW : Hid (Chg nob W3 (World.alloc U2 (.cells #[.slice none 0 0, .int .i64 0, .string ⟨#[]⟩, .int .i64 0] 31))) := hik (KW.out.alloc _)
            generalize hUA : (World.alloc U2 (.cells #[.slice none 0 0, .int .i64 0, .string ⟨#[]⟩, .int .i64 0] 31)) = UA at E7 KW RY TY OY ⊢
            clear hUA
            rw [← hgA] at E7 ⊢
            clear hgA
            refine hK.out _ _ (SA.out _ KW.out) (fun hHeld => ?_)
            clear hK K
            try simp only [Act.put, List.setIfInBounds_toArray, List.set_cons_zero, List.set_cons_succ, List.getElem_toArray, List.getElem_cons_zero, List.getElem_cons_succ]
            refine wpAnyH_ready (rs := [5]) (by kernel_rfl) (by simp) ?_
            refine AllReadyH.cons rfl (fun K hK => ?_) AllReadyH.nil
            have lE := E7.out.lt
            refine stepL_callN 7 #[.tmp 39, .tmp 41, .tmp 43] #[3, 28, 31] (by rfl) (by rfl) #[.int .i64 a0, .slice (some ⟨xb, 0, none⟩) len1 len1, .agg #[.slice (some ⟨by_, 0, none⟩) len2 len2, .int .i64 at2, .string st2, .int .i64 ct2]] (by simp only [List.map_toArray, List.map_cons, List.map_nil] <;> rfl) (run_go Tryz.func7 (by kernel_rfl) (by kernel_rfl) _ _) (HS.out _ _ _ _ _ (hik (CopiedSS.rows (w := w) RY.out TY.out)) (hik OY.out.pairs)) ?_
            rintro e U3 ⟨cR, capR, cP, capP, cV, capV, cS, capS, he, rR, rP, rV, rS, kk⟩
            have RR := hik (rR.mono (R := fun b => b ≠ gA) (fun b hb e => by omega))
            have RP := hik rP
            have RV := hik rV
            have RS := hik rS
            clear rR rP rV rS RY TY OY
            replace E7 := hik (rowIs_keep E7.out kk)
            refine ⟨_, he, ?_⟩
            replace KW := hik (KW.out.trans kk)
            refine hK.out _ _ (SA.out _ KW.out) (fun hHeld => ?_)
            clear hK K
            try simp only [Act.put, List.setIfInBounds_toArray, List.set_cons_zero, List.set_cons_succ, List.getElem_toArray, List.getElem_cons_zero, List.getElem_cons_succ]
            clear he kk
            clear lE
            refine wpAnyH_take (i := 6) (v := ?_) rfl (by kernel_rfl) (by kernel_rfl) (by kernel_rfl) (fun _ _ _ h => h) (Or.inl ⟨by rfl, ?_⟩) (by assumption) ?_
            rotate_left 1
            · (intro w' hSw; (try dsimp only at hSw); go_simp; try with_reducible rfl)
            try simp only [Act.put, List.setIfInBounds_toArray, List.set_cons_zero, List.set_cons_succ, List.getElem_toArray, List.getElem_cons_zero, List.getElem_cons_succ]
            refine wpAnyH_take (i := 7) (v := ?_) rfl (by kernel_rfl) (by kernel_rfl) (by kernel_rfl) (fun _ _ _ h => h) (Or.inl ⟨by rfl, ?_⟩) (by assumption) ?_
            rotate_left 1
            · (intro w' hSw; (try dsimp only at hSw); go_simp; try with_reducible rfl)
            try simp only [Act.put, List.setIfInBounds_toArray, List.set_cons_zero, List.set_cons_succ, List.getElem_toArray, List.getElem_cons_zero, List.getElem_cons_succ]
            refine wpAnyH_take (i := 8) (v := ?_) rfl (by kernel_rfl) (by kernel_rfl) (by kernel_rfl) (fun _ _ _ h => h) (Or.inl ⟨by rfl, ?_⟩) (by assumption) ?_
            rotate_left 1
            · (intro w' hSw; (try dsimp only at hSw); go_simp; try with_reducible rfl)
            try simp only [Act.put, List.setIfInBounds_toArray, List.set_cons_zero, List.set_cons_succ, List.getElem_toArray, List.getElem_cons_zero, List.getElem_cons_succ]
            refine wpAnyH_take (i := 9) (v := ?_) rfl (by kernel_rfl) (by kernel_rfl) (by kernel_rfl) (fun _ _ _ h => h) (Or.inl ⟨by rfl, ?_⟩) (by assumption) ?_
            rotate_left 1
            · (intro w' hSw; (try dsimp only at hSw); go_simp; try with_reducible rfl)
            try simp only [Act.put, List.setIfInBounds_toArray, List.set_cons_zero, List.set_cons_succ, List.getElem_toArray, List.getElem_cons_zero, List.getElem_cons_succ]
            refine wpAnyH_take (i := 10) (v := ?_) rfl (by kernel_rfl) (by kernel_rfl) (by kernel_rfl) (fun _ _ _ h => h) (Or.inl ⟨by rfl, ?_⟩) (by assumption) ?_
            rotate_left 1
            · (intro w' hSw; (try dsimp only at hSw); go_simp; try with_reducible rfl)
            try simp only [Act.put, List.setIfInBounds_toArray, List.set_cons_zero, List.set_cons_succ, List.getElem_toArray, List.getElem_cons_zero, List.getElem_cons_succ]
            refine wpAnyH_take (i := 11) (v := ?_) rfl (by kernel_rfl) (by kernel_rfl) (by kernel_rfl) (fun _ _ _ h => h) (Or.inl ⟨by rfl, ?_⟩) (by assumption) ?_
            rotate_left 1
            · (intro w' hSw; (try dsimp only at hSw); go_simp; try with_reducible rfl)
            try simp only [Act.put, List.setIfInBounds_toArray, List.set_cons_zero, List.set_cons_succ, List.getElem_toArray, List.getElem_cons_zero, List.getElem_cons_succ]
            refine wpAnyH_take (i := 13) (v := ?_) rfl (by kernel_rfl) (by kernel_rfl) (by kernel_rfl) (fun _ _ _ h => h) (Or.inl ⟨by rfl, ?_⟩) (by assumption) ?_
            rotate_left 1
            · (intro w' hSw; (try dsimp only at hSw); go_simp; try with_reducible rfl)
            try simp only [Act.put, List.setIfInBounds_toArray, List.set_cons_zero, List.set_cons_succ, List.getElem_toArray, List.getElem_cons_zero, List.getElem_cons_succ]
            refine wpAnyH_take (i := 14) (v := ?_) rfl (by kernel_rfl) (by kernel_rfl) (by kernel_rfl) (fun _ _ _ h => h) (Or.inl ⟨by rfl, ?_⟩) (by assumption) ?_
            rotate_left 1
            · (intro w' hSw; (try dsimp only at hSw); go_simp; try with_reducible rfl)
            try simp only [Act.put, List.setIfInBounds_toArray, List.set_cons_zero, List.set_cons_succ, List.getElem_toArray, List.getElem_cons_zero, List.getElem_cons_succ]
            refine wpAnyH_take (i := 15) (v := ?_) rfl (by kernel_rfl) (by kernel_rfl) (by kernel_rfl) (fun _ _ _ h => h) (Or.inl ⟨by rfl, ?_⟩) (by assumption) ?_
            rotate_left 1
            · (intro w' hSw; (try dsimp only at hSw); go_simp; try with_reducible rfl)
            try simp only [Act.put, List.setIfInBounds_toArray, List.set_cons_zero, List.set_cons_succ, List.getElem_toArray, List.getElem_cons_zero, List.getElem_cons_succ]
            refine wpAnyH_ready (rs := [16]) (by kernel_rfl) (by simp) ?_
            refine AllReadyH.cons rfl (fun K hK => ?_) AllReadyH.nil
            have y0 : U3.cell? ⟨gA, 0, none⟩ = some (.slice none 0 0) := E7.out.cell (by omega)
            have v0 := E7.out.frozen 0
            have y1 : U3.cell? ⟨gA, 1, none⟩ = some (.int .i64 0) := E7.out.cell (by omega)
            have v1 := E7.out.frozen 1
            have y2 : U3.cell? ⟨gA, 2, none⟩ = some (.string ⟨#[]⟩) := E7.out.cell (by omega)
            have v2 := E7.out.frozen 2
            have y3 : U3.cell? ⟨gA, 3, none⟩ = some (.int .i64 0) := E7.out.cell (by omega)
            have v3 := E7.out.frozen 3
            have l7 := E7.out.lt
            have C7 := hik (chg4_set (Chg.refl (fun b => b = gA) U3) gA (fun _ => rfl) (.slice cS nS capS) (.int .i64 aa) (.string ss) (.int .i64 cc))
            simp only [List.getElem_toArray, List.getElem_cons_zero, List.getElem_cons_succ]
            go_simp
            replace KW := hik (chg4_set KW.out gA (fun l => absurd l (by omega)) (.slice cS nS capS) (.int .i64 aa) (.string ss) (.int .i64 cc))
            refine hK.out _ _ (SA.out _ KW.out) (fun hHeld => ?_)
            clear hK K
            try simp only [Act.put, List.setIfInBounds_toArray, List.set_cons_zero, List.set_cons_succ, List.getElem_toArray, List.getElem_cons_zero, List.getElem_cons_succ]
            clear y0 y1 y2 y3 v0 v1 v2 v3 l7
            replace RR := hik (RR.out.chg C7.out (fun b hb e => hb e))
            replace RP := hik (RP.out.src4 E7.out C7.out)
            replace RV := hik (RV.out.src4 E7.out C7.out)
            replace RS := hik (RS.out.src4 E7.out C7.out)
            replace E7 := hik (row4_set E7.out (.slice cS nS capS) (.int .i64 aa) (.string ss) (.int .i64 cc))
            clear C7
            generalize hUS : ((((U3.setCell ⟨gA, 0, none⟩ (.slice cS nS capS)).setCell ⟨gA, 1, none⟩ (.int .i64 aa)).setCell ⟨gA, 2, none⟩ (.string ss)).setCell ⟨gA, 3, none⟩ (.int .i64 cc)) = US at E7 KW RR RP RV RS hHeld ⊢
            clear hUS
            refine wpAnyH_take (i := 17) (v := ?_) rfl (by kernel_rfl) (by kernel_rfl) (by kernel_rfl) (fun _ _ _ h => h) (Or.inl ⟨by rfl, ?_⟩) (by assumption) ?_
            rotate_left 1
            · (intro w' hSw; (try dsimp only at hSw); go_simp; try with_reducible rfl)
            try simp only [Act.put, List.setIfInBounds_toArray, List.set_cons_zero, List.set_cons_succ, List.getElem_toArray, List.getElem_cons_zero, List.getElem_cons_succ]
            refine wpAnyH_done (by kernel_rfl) ?_ _
            obtain ⟨Aw, Cw, rv⟩ := RowsE.toV (RowsQ.toE RR.out)
            have RR2 := hik rv
            clear rv RR SA
            go_wp2_with fail
            go_meet
            exact ⟨cR, cP, cV, cS, capR, capP, capV, capS, gA, Aw, Cw, rfl, rfl, rfl, rfl, rfl, RR2, hik (OwnE.pairs RP.out), hik (OwnE.pairs RV.out), hik (OwnE.pairs RS.out), E7, KW, hik lA⟩
        · refine AllReadyH.cons rfl (fun K hK => ?_) AllReadyH.nil
          simp only [List.getElem_toArray, List.getElem_cons_zero, List.getElem_cons_succ]
          go_simp
          obtain ⟨gA, hgA⟩ : ∃ g, g = U1.heap.size := ⟨_, rfl⟩
          have E7 : Hid (World.rowIs (World.alloc U1 (.cells #[.slice none 0 0, .int .i64 0, .string ⟨#[]⟩, .int .i64 0] 31)) U1.heap.size 31 4 (pv4 (.slice none 0 0) (.int .i64 0) (.string ⟨#[]⟩) (.int .i64 0))) := hik (row4_new U1 _ _ _ _ _)
          have lA : W3.heap.size ≤ gA := by rw [hgA]; exact KW.out.size
          replace RY := hik (rowIs_keep RY.out ((Chg.refl nob _).alloc (.cells #[.slice none 0 0, .int .i64 0, .string ⟨#[]⟩, .int .i64 0] 31)))
          replace TY := hik (show ∀ i, i < len1 → _ from fun i hi => rowIs_keep (TY.out i hi) ((Chg.refl nob _).alloc (.cells #[.slice none 0 0, .int .i64 0, .string ⟨#[]⟩, .int .i64 0] 31)))
          replace KW : Hid (Chg nob W3 (World.alloc U1 (.cells #[.slice none 0 0, .int .i64 0, .string ⟨#[]⟩, .int .i64 0] 31))) := hik (KW.out.alloc _)
          generalize hUA : (World.alloc U1 (.cells #[.slice none 0 0, .int .i64 0, .string ⟨#[]⟩, .int .i64 0] 31)) = UA at E7 KW RY TY ⊢
          clear hUA
          rw [← hgA] at E7 ⊢
          clear hgA
          refine hK.out _ _ (SA.out _ KW.out) (fun hHeld => ?_)
          clear hK K
          try simp only [Act.put, List.setIfInBounds_toArray, List.set_cons_zero, List.set_cons_succ, List.getElem_toArray, List.getElem_cons_zero, List.getElem_cons_succ]
          refine wpAnyH_ready (rs := [4]) (by kernel_rfl) (by simp) ?_
          refine AllReadyH.cons rfl (fun K hK => ?_) AllReadyH.nil
          refine stepL_callN 9 #[.tmp 42] #[25] (by rfl) (by rfl) #[.agg #[.slice c2 len2 cap2, .int .i64 at2, .string st2, .int .i64 ct2]] (by simp only [List.map_toArray, List.map_cons, List.map_nil] <;> rfl) (run_go Tryz.func9 (by kernel_rfl) (by kernel_rfl) _ _) (toSource_any c2 len2 cap2 f2 g2 at2 st2 ct2 _ (hik (HP2.out.keep (G.out.trans KW.out))) hn2) ?_
          rintro e U2 ⟨by_, hby, he, hry, kk⟩
          have OY := hik (OwnE.of_row hry (Nat.le_refl by_))
          replace RY := hik (rowIs_keep RY.out kk)
          replace TY := hik (show ∀ i, i < len1 → _ from fun i hi => rowIs_keep (TY.out i hi) kk)
          clear hry hby
          replace E7 := hik (rowIs_keep E7.out kk)
          refine ⟨_, he, ?_⟩
          replace KW := hik (KW.out.trans kk)
          refine hK.out _ _ (SA.out _ KW.out) (fun hHeld => ?_)
          clear hK K
          try simp only [Act.put, List.setIfInBounds_toArray, List.set_cons_zero, List.set_cons_succ, List.getElem_toArray, List.getElem_cons_zero, List.getElem_cons_succ]
          clear he kk
          refine wpAnyH_ready (rs := [5]) (by kernel_rfl) (by simp) ?_
          refine AllReadyH.cons rfl (fun K hK => ?_) AllReadyH.nil
          have lE := E7.out.lt
          refine stepL_callN 7 #[.tmp 39, .tmp 41, .tmp 43] #[3, 28, 31] (by rfl) (by rfl) #[.int .i64 a0, .slice (some ⟨xb, 0, none⟩) len1 len1, .agg #[.slice (some ⟨by_, 0, none⟩) len2 len2, .int .i64 at2, .string st2, .int .i64 ct2]] (by simp only [List.map_toArray, List.map_cons, List.map_nil] <;> rfl) (run_go Tryz.func7 (by kernel_rfl) (by kernel_rfl) _ _) (HS.out _ _ _ _ _ (hik (CopiedSS.rows (w := w) RY.out TY.out)) (hik OY.out.pairs)) ?_
          rintro e U3 ⟨cR, capR, cP, capP, cV, capV, cS, capS, he, rR, rP, rV, rS, kk⟩
          have RR := hik (rR.mono (R := fun b => b ≠ gA) (fun b hb e => by omega))
          have RP := hik rP
          have RV := hik rV
          have RS := hik rS
          clear rR rP rV rS RY TY OY
          replace E7 := hik (rowIs_keep E7.out kk)
          refine ⟨_, he, ?_⟩
          replace KW := hik (KW.out.trans kk)
          refine hK.out _ _ (SA.out _ KW.out) (fun hHeld => ?_)
          clear hK K
          try simp only [Act.put, List.setIfInBounds_toArray, List.set_cons_zero, List.set_cons_succ, List.getElem_toArray, List.getElem_cons_zero, List.getElem_cons_succ]
          clear he kk
          clear lE
          refine wpAnyH_take (i := 6) (v := ?_) rfl (by kernel_rfl) (by kernel_rfl) (by kernel_rfl) (fun _ _ _ h => h) (Or.inl ⟨by rfl, ?_⟩) (by assumption) ?_
          rotate_left 1
          · (intro w' hSw; (try dsimp only at hSw); go_simp; try with_reducible rfl)
          try simp only [Act.put, List.setIfInBounds_toArray, List.set_cons_zero, List.set_cons_succ, List.getElem_toArray, List.getElem_cons_zero, List.getElem_cons_succ]
          refine wpAnyH_take (i := 7) (v := ?_) rfl (by kernel_rfl) (by kernel_rfl) (by kernel_rfl) (fun _ _ _ h => h) (Or.inl ⟨by rfl, ?_⟩) (by assumption) ?_
          rotate_left 1
          · (intro w' hSw; (try dsimp only at hSw); go_simp; try with_reducible rfl)
          try simp only [Act.put, List.setIfInBounds_toArray, List.set_cons_zero, List.set_cons_succ, List.getElem_toArray, List.getElem_cons_zero, List.getElem_cons_succ]
          refine wpAnyH_take (i := 8) (v := ?_) rfl (by kernel_rfl) (by kernel_rfl) (by kernel_rfl) (fun _ _ _ h => h) (Or.inl ⟨by rfl, ?_⟩) (by assumption) ?_
          rotate_left 1
          · (intro w' hSw; (try dsimp only at hSw); go_simp; try with_reducible rfl)
          try simp only [Act.put, List.setIfInBounds_toArray, List.set_cons_zero, List.set_cons_succ, List.getElem_toArray, List.getElem_cons_zero, List.getElem_cons_succ]
          refine wpAnyH_take (i := 9) (v := ?_) rfl (by kernel_rfl) (by kernel_rfl) (by kernel_rfl) (fun _ _ _ h => h) (Or.inl ⟨by rfl, ?_⟩) (by assumption) ?_
          rotate_left 1
          · (intro w' hSw; (try dsimp only at hSw); go_simp; try with_reducible rfl)
          try simp only [Act.put, List.setIfInBounds_toArray, List.set_cons_zero, List.set_cons_succ, List.getElem_toArray, List.getElem_cons_zero, List.getElem_cons_succ]
          refine wpAnyH_take (i := 10) (v := ?_) rfl (by kernel_rfl) (by kernel_rfl) (by kernel_rfl) (fun _ _ _ h => h) (Or.inl ⟨by rfl, ?_⟩) (by assumption) ?_
          rotate_left 1
          · (intro w' hSw; (try dsimp only at hSw); go_simp; try with_reducible rfl)
          try simp only [Act.put, List.setIfInBounds_toArray, List.set_cons_zero, List.set_cons_succ, List.getElem_toArray, List.getElem_cons_zero, List.getElem_cons_succ]
          refine wpAnyH_take (i := 11) (v := ?_) rfl (by kernel_rfl) (by kernel_rfl) (by kernel_rfl) (fun _ _ _ h => h) (Or.inl ⟨by rfl, ?_⟩) (by assumption) ?_
          rotate_left 1
          · (intro w' hSw; (try dsimp only at hSw); go_simp; try with_reducible rfl)
          try simp only [Act.put, List.setIfInBounds_toArray, List.set_cons_zero, List.set_cons_succ, List.getElem_toArray, List.getElem_cons_zero, List.getElem_cons_succ]
          refine wpAnyH_take (i := 13) (v := ?_) rfl (by kernel_rfl) (by kernel_rfl) (by kernel_rfl) (fun _ _ _ h => h) (Or.inl ⟨by rfl, ?_⟩) (by assumption) ?_
          rotate_left 1
          · (intro w' hSw; (try dsimp only at hSw); go_simp; try with_reducible rfl)
          try simp only [Act.put, List.setIfInBounds_toArray, List.set_cons_zero, List.set_cons_succ, List.getElem_toArray, List.getElem_cons_zero, List.getElem_cons_succ]
          refine wpAnyH_take (i := 14) (v := ?_) rfl (by kernel_rfl) (by kernel_rfl) (by kernel_rfl) (fun _ _ _ h => h) (Or.inl ⟨by rfl, ?_⟩) (by assumption) ?_
          rotate_left 1
          · (intro w' hSw; (try dsimp only at hSw); go_simp; try with_reducible rfl)
          try simp only [Act.put, List.setIfInBounds_toArray, List.set_cons_zero, List.set_cons_succ, List.getElem_toArray, List.getElem_cons_zero, List.getElem_cons_succ]
          refine wpAnyH_take (i := 15) (v := ?_) rfl (by kernel_rfl) (by kernel_rfl) (by kernel_rfl) (fun _ _ _ h => h) (Or.inl ⟨by rfl, ?_⟩) (by assumption) ?_
          rotate_left 1
          · (intro w' hSw; (try dsimp only at hSw); go_simp; try with_reducible rfl)
          try simp only [Act.put, List.setIfInBounds_toArray, List.set_cons_zero, List.set_cons_succ, List.getElem_toArray, List.getElem_cons_zero, List.getElem_cons_succ]
          refine wpAnyH_ready (rs := [16]) (by kernel_rfl) (by simp) ?_
          refine AllReadyH.cons rfl (fun K hK => ?_) AllReadyH.nil
          have y0 : U3.cell? ⟨gA, 0, none⟩ = some (.slice none 0 0) := E7.out.cell (by omega)
          have v0 := E7.out.frozen 0
          have y1 : U3.cell? ⟨gA, 1, none⟩ = some (.int .i64 0) := E7.out.cell (by omega)
          have v1 := E7.out.frozen 1
          have y2 : U3.cell? ⟨gA, 2, none⟩ = some (.string ⟨#[]⟩) := E7.out.cell (by omega)
          have v2 := E7.out.frozen 2
          have y3 : U3.cell? ⟨gA, 3, none⟩ = some (.int .i64 0) := E7.out.cell (by omega)
          have v3 := E7.out.frozen 3
          have l7 := E7.out.lt
          have C7 := hik (chg4_set (Chg.refl (fun b => b = gA) U3) gA (fun _ => rfl) (.slice cS nS capS) (.int .i64 aa) (.string ss) (.int .i64 cc))
          simp only [List.getElem_toArray, List.getElem_cons_zero, List.getElem_cons_succ]
          go_simp
          replace KW := hik (chg4_set KW.out gA (fun l => absurd l (by omega)) (.slice cS nS capS) (.int .i64 aa) (.string ss) (.int .i64 cc))
          refine hK.out _ _ (SA.out _ KW.out) (fun hHeld => ?_)
          clear hK K
          try simp only [Act.put, List.setIfInBounds_toArray, List.set_cons_zero, List.set_cons_succ, List.getElem_toArray, List.getElem_cons_zero, List.getElem_cons_succ]
          clear y0 y1 y2 y3 v0 v1 v2 v3 l7
          replace RR := hik (RR.out.chg C7.out (fun b hb e => hb e))
          replace RP := hik (RP.out.src4 E7.out C7.out)
          replace RV := hik (RV.out.src4 E7.out C7.out)
          replace RS := hik (RS.out.src4 E7.out C7.out)
          replace E7 := hik (row4_set E7.out (.slice cS nS capS) (.int .i64 aa) (.string ss) (.int .i64 cc))
          clear C7
          generalize hUS : ((((U3.setCell ⟨gA, 0, none⟩ (.slice cS nS capS)).setCell ⟨gA, 1, none⟩ (.int .i64 aa)).setCell ⟨gA, 2, none⟩ (.string ss)).setCell ⟨gA, 3, none⟩ (.int .i64 cc)) = US at E7 KW RR RP RV RS hHeld ⊢
          clear hUS
          refine wpAnyH_take (i := 17) (v := ?_) rfl (by kernel_rfl) (by kernel_rfl) (by kernel_rfl) (fun _ _ _ h => h) (Or.inl ⟨by rfl, ?_⟩) (by assumption) ?_
          rotate_left 1
          · (intro w' hSw; (try dsimp only at hSw); go_simp; try with_reducible rfl)
          try simp only [Act.put, List.setIfInBounds_toArray, List.set_cons_zero, List.set_cons_succ, List.getElem_toArray, List.getElem_cons_zero, List.getElem_cons_succ]
          refine wpAnyH_done (by kernel_rfl) ?_ _
          obtain ⟨Aw, Cw, rv⟩ := RowsE.toV (RowsQ.toE RR.out)
          have RR2 := hik rv
          clear rv RR SA
          go_wp2_with fail
          go_meet
          exact ⟨cR, cP, cV, cS, capR, capP, capV, capS, gA, Aw, Cw, rfl, rfl, rfl, rfl, rfl, RR2, hik (OwnE.pairs RP.out), hik (OwnE.pairs RV.out), hik (OwnE.pairs RS.out), E7, KW, hik lA⟩
      · refine AllReadyH.cons rfl (fun K hK => ?_) AllReadyH.nil
        simp only [List.getElem_toArray, List.getElem_cons_zero, List.getElem_cons_succ]
        go_simp
        obtain ⟨gA, hgA⟩ : ∃ g, g = W3.heap.size := ⟨_, rfl⟩
        have E7 : Hid (World.rowIs (World.alloc W3 (.cells #[.slice none 0 0, .int .i64 0, .string ⟨#[]⟩, .int .i64 0] 31)).drew W3.heap.size 31 4 (pv4 (.slice none 0 0) (.int .i64 0) (.string ⟨#[]⟩) (.int .i64 0))) := hik (rowIs_keep (row4_new W3 _ _ _ _ _) (Chg.refl nob _).drew1)
        have lA : W3.heap.size ≤ gA := by rw [hgA]; exact Nat.le_refl _
        replace KW : Hid (Chg nob W3 (World.alloc W3 (.cells #[.slice none 0 0, .int .i64 0, .string ⟨#[]⟩, .int .i64 0] 31)).drew) := hik (((Chg.refl nob W3).alloc _).drew1)
        generalize hUA : (World.alloc W3 (.cells #[.slice none 0 0, .int .i64 0, .string ⟨#[]⟩, .int .i64 0] 31)).drew = UA at E7 KW ⊢
        clear hUA
        rw [← hgA] at E7 ⊢
        clear hgA
        refine hK.out _ _ (SA.out _ KW.out) (fun hHeld => ?_)
        clear hK K
        try simp only [Act.put, List.setIfInBounds_toArray, List.set_cons_zero, List.set_cons_succ, List.getElem_toArray, List.getElem_cons_zero, List.getElem_cons_succ]
        refine wpAnyH_ready (rs := [2]) (by kernel_rfl) (by simp) ?_
        refine AllReadyH.cons rfl (fun K hK => ?_) AllReadyH.nil
        refine stepL_callN 8 #[.tmp 40] #[22] (by rfl) (by rfl) #[.slice c1 len1 cap1] (by simp only [List.map_toArray, List.map_cons, List.map_nil] <;> rfl) (run_go Tryz.func8 (by kernel_rfl) (by kernel_rfl) _ _) (toSS_any c1 len1 cap1 A1 L1 C1 f1 g1 _ (hik (RowsV.keep HP1.out (G.out.trans KW.out))) HL hn1') ?_
        rintro e U1 ⟨By, he, ry, ty, dy, kk⟩
        generalize hxb : (UA).heap.size = xb at he ry ty
        clear hxb
        have RY := hik ry
        have TY := hik (show ∀ i, i < len1 → _ from fun i hi => (ty i hi).2)
        clear ry ty dy
        replace E7 := hik (rowIs_keep E7.out kk)
        refine ⟨_, he, ?_⟩
        replace KW := hik (KW.out.trans kk)
        refine hK.out _ _ (SA.out _ KW.out) (fun hHeld => ?_)
        clear hK K
        try simp only [Act.put, List.setIfInBounds_toArray, List.set_cons_zero, List.set_cons_succ, List.getElem_toArray, List.getElem_cons_zero, List.getElem_cons_succ]
        clear he kk
        refine wpAnyH_ready (rs := [4]) (by kernel_rfl) (by simp) ?_
        refine AllReadyH.cons rfl (fun K hK => ?_) AllReadyH.nil
        refine stepL_callN 9 #[.tmp 42] #[25] (by rfl) (by rfl) #[.agg #[.slice c2 len2 cap2, .int .i64 at2, .string st2, .int .i64 ct2]] (by simp only [List.map_toArray, List.map_cons, List.map_nil] <;> rfl) (run_go Tryz.func9 (by kernel_rfl) (by kernel_rfl) _ _) (toSource_any c2 len2 cap2 f2 g2 at2 st2 ct2 _ (hik (HP2.out.keep (G.out.trans KW.out))) hn2) ?_
        rintro e U2 ⟨by_, hby, he, hry, kk⟩
        have OY := hik (OwnE.of_row hry (Nat.le_refl by_))
        replace RY := hik (rowIs_keep RY.out kk)
        replace TY := hik (show ∀ i, i < len1 → _ from fun i hi => rowIs_keep (TY.out i hi) kk)
        clear hry hby
        replace E7 := hik (rowIs_keep E7.out kk)
        refine ⟨_, he, ?_⟩
        replace KW := hik (KW.out.trans kk)
        refine hK.out _ _ (SA.out _ KW.out) (fun hHeld => ?_)
        clear hK K
        try simp only [Act.put, List.setIfInBounds_toArray, List.set_cons_zero, List.set_cons_succ, List.getElem_toArray, List.getElem_cons_zero, List.getElem_cons_succ]
        clear he kk
        refine wpAnyH_ready (rs := [5]) (by kernel_rfl) (by simp) ?_
        refine AllReadyH.cons rfl (fun K hK => ?_) AllReadyH.nil
        have lE := E7.out.lt
        refine stepL_callN 7 #[.tmp 39, .tmp 41, .tmp 43] #[3, 28, 31] (by rfl) (by rfl) #[.int .i64 a0, .slice (some ⟨xb, 0, none⟩) len1 len1, .agg #[.slice (some ⟨by_, 0, none⟩) len2 len2, .int .i64 at2, .string st2, .int .i64 ct2]] (by simp only [List.map_toArray, List.map_cons, List.map_nil] <;> rfl) (run_go Tryz.func7 (by kernel_rfl) (by kernel_rfl) _ _) (HS.out _ _ _ _ _ (hik (CopiedSS.rows (w := w) RY.out TY.out)) (hik OY.out.pairs)) ?_
        rintro e U3 ⟨cR, capR, cP, capP, cV, capV, cS, capS, he, rR, rP, rV, rS, kk⟩
        have RR := hik (rR.mono (R := fun b => b ≠ gA) (fun b hb e => by omega))
        have RP := hik rP
        have RV := hik rV
        have RS := hik rS
        clear rR rP rV rS RY TY OY
        replace E7 := hik (rowIs_keep E7.out kk)
        refine ⟨_, he, ?_⟩
        replace KW := hik (KW.out.trans kk)
        refine hK.out _ _ (SA.out _ KW.out) (fun hHeld => ?_)
        clear hK K
        try simp only [Act.put, List.setIfInBounds_toArray, List.set_cons_zero, List.set_cons_succ, List.getElem_toArray, List.getElem_cons_zero, List.getElem_cons_succ]
        clear he kk
        clear lE
        refine wpAnyH_take (i := 6) (v := ?_) rfl (by kernel_rfl) (by kernel_rfl) (by kernel_rfl) (fun _ _ _ h => h) (Or.inl ⟨by rfl, ?_⟩) (by assumption) ?_
        rotate_left 1
        · (intro w' hSw; (try dsimp only at hSw); go_simp; try with_reducible rfl)
        try simp only [Act.put, List.setIfInBounds_toArray, List.set_cons_zero, List.set_cons_succ, List.getElem_toArray, List.getElem_cons_zero, List.getElem_cons_succ]
        refine wpAnyH_take (i := 7) (v := ?_) rfl (by kernel_rfl) (by kernel_rfl) (by kernel_rfl) (fun _ _ _ h => h) (Or.inl ⟨by rfl, ?_⟩) (by assumption) ?_
        rotate_left 1
        · (intro w' hSw; (try dsimp only at hSw); go_simp; try with_reducible rfl)
        try simp only [Act.put, List.setIfInBounds_toArray, List.set_cons_zero, List.set_cons_succ, List.getElem_toArray, List.getElem_cons_zero, List.getElem_cons_succ]
        refine wpAnyH_take (i := 8) (v := ?_) rfl (by kernel_rfl) (by kernel_rfl) (by kernel_rfl) (fun _ _ _ h => h) (Or.inl ⟨by rfl, ?_⟩) (by assumption) ?_
        rotate_left 1
        · (intro w' hSw; (try dsimp only at hSw); go_simp; try with_reducible rfl)
        try simp only [Act.put, List.setIfInBounds_toArray, List.set_cons_zero, List.set_cons_succ, List.getElem_toArray, List.getElem_cons_zero, List.getElem_cons_succ]
        refine wpAnyH_take (i := 9) (v := ?_) rfl (by kernel_rfl) (by kernel_rfl) (by kernel_rfl) (fun _ _ _ h => h) (Or.inl ⟨by rfl, ?_⟩) (by assumption) ?_
        rotate_left 1
        · (intro w' hSw; (try dsimp only at hSw); go_simp; try with_reducible rfl)
        try simp only [Act.put, List.setIfInBounds_toArray, List.set_cons_zero, List.set_cons_succ, List.getElem_toArray, List.getElem_cons_zero, List.getElem_cons_succ]
        refine wpAnyH_take (i := 10) (v := ?_) rfl (by kernel_rfl) (by kernel_rfl) (by kernel_rfl) (fun _ _ _ h => h) (Or.inl ⟨by rfl, ?_⟩) (by assumption) ?_
        rotate_left 1
        · (intro w' hSw; (try dsimp only at hSw); go_simp; try with_reducible rfl)
        try simp only [Act.put, List.setIfInBounds_toArray, List.set_cons_zero, List.set_cons_succ, List.getElem_toArray, List.getElem_cons_zero, List.getElem_cons_succ]
        refine wpAnyH_take (i := 11) (v := ?_) rfl (by kernel_rfl) (by kernel_rfl) (by kernel_rfl) (fun _ _ _ h => h) (Or.inl ⟨by rfl, ?_⟩) (by assumption) ?_
        rotate_left 1
        · (intro w' hSw; (try dsimp only at hSw); go_simp; try with_reducible rfl)
        try simp only [Act.put, List.setIfInBounds_toArray, List.set_cons_zero, List.set_cons_succ, List.getElem_toArray, List.getElem_cons_zero, List.getElem_cons_succ]
        refine wpAnyH_take (i := 13) (v := ?_) rfl (by kernel_rfl) (by kernel_rfl) (by kernel_rfl) (fun _ _ _ h => h) (Or.inl ⟨by rfl, ?_⟩) (by assumption) ?_
        rotate_left 1
        · (intro w' hSw; (try dsimp only at hSw); go_simp; try with_reducible rfl)
        try simp only [Act.put, List.setIfInBounds_toArray, List.set_cons_zero, List.set_cons_succ, List.getElem_toArray, List.getElem_cons_zero, List.getElem_cons_succ]
        refine wpAnyH_take (i := 14) (v := ?_) rfl (by kernel_rfl) (by kernel_rfl) (by kernel_rfl) (fun _ _ _ h => h) (Or.inl ⟨by rfl, ?_⟩) (by assumption) ?_
        rotate_left 1
        · (intro w' hSw; (try dsimp only at hSw); go_simp; try with_reducible rfl)
        try simp only [Act.put, List.setIfInBounds_toArray, List.set_cons_zero, List.set_cons_succ, List.getElem_toArray, List.getElem_cons_zero, List.getElem_cons_succ]
        refine wpAnyH_take (i := 15) (v := ?_) rfl (by kernel_rfl) (by kernel_rfl) (by kernel_rfl) (fun _ _ _ h => h) (Or.inl ⟨by rfl, ?_⟩) (by assumption) ?_
        rotate_left 1
        · (intro w' hSw; (try dsimp only at hSw); go_simp; try with_reducible rfl)
        try simp only [Act.put, List.setIfInBounds_toArray, List.set_cons_zero, List.set_cons_succ, List.getElem_toArray, List.getElem_cons_zero, List.getElem_cons_succ]
        refine wpAnyH_ready (rs := [16]) (by kernel_rfl) (by simp) ?_
        refine AllReadyH.cons rfl (fun K hK => ?_) AllReadyH.nil
        have y0 : U3.cell? ⟨gA, 0, none⟩ = some (.slice none 0 0) := E7.out.cell (by omega)
        have v0 := E7.out.frozen 0
        have y1 : U3.cell? ⟨gA, 1, none⟩ = some (.int .i64 0) := E7.out.cell (by omega)
        have v1 := E7.out.frozen 1
        have y2 : U3.cell? ⟨gA, 2, none⟩ = some (.string ⟨#[]⟩) := E7.out.cell (by omega)
        have v2 := E7.out.frozen 2
        have y3 : U3.cell? ⟨gA, 3, none⟩ = some (.int .i64 0) := E7.out.cell (by omega)
        have v3 := E7.out.frozen 3
        have l7 := E7.out.lt
        have C7 := hik (chg4_set (Chg.refl (fun b => b = gA) U3) gA (fun _ => rfl) (.slice cS nS capS) (.int .i64 aa) (.string ss) (.int .i64 cc))
        simp only [List.getElem_toArray, List.getElem_cons_zero, List.getElem_cons_succ]
        go_simp
        replace KW := hik (chg4_set KW.out gA (fun l => absurd l (by omega)) (.slice cS nS capS) (.int .i64 aa) (.string ss) (.int .i64 cc))
        refine hK.out _ _ (SA.out _ KW.out) (fun hHeld => ?_)
        clear hK K
        try simp only [Act.put, List.setIfInBounds_toArray, List.set_cons_zero, List.set_cons_succ, List.getElem_toArray, List.getElem_cons_zero, List.getElem_cons_succ]
        clear y0 y1 y2 y3 v0 v1 v2 v3 l7
        replace RR := hik (RR.out.chg C7.out (fun b hb e => hb e))
        replace RP := hik (RP.out.src4 E7.out C7.out)
        replace RV := hik (RV.out.src4 E7.out C7.out)
        replace RS := hik (RS.out.src4 E7.out C7.out)
        replace E7 := hik (row4_set E7.out (.slice cS nS capS) (.int .i64 aa) (.string ss) (.int .i64 cc))
        clear C7
        generalize hUS : ((((U3.setCell ⟨gA, 0, none⟩ (.slice cS nS capS)).setCell ⟨gA, 1, none⟩ (.int .i64 aa)).setCell ⟨gA, 2, none⟩ (.string ss)).setCell ⟨gA, 3, none⟩ (.int .i64 cc)) = US at E7 KW RR RP RV RS hHeld ⊢
        clear hUS
        refine wpAnyH_take (i := 17) (v := ?_) rfl (by kernel_rfl) (by kernel_rfl) (by kernel_rfl) (fun _ _ _ h => h) (Or.inl ⟨by rfl, ?_⟩) (by assumption) ?_
        rotate_left 1
        · (intro w' hSw; (try dsimp only at hSw); go_simp; try with_reducible rfl)
        try simp only [Act.put, List.setIfInBounds_toArray, List.set_cons_zero, List.set_cons_succ, List.getElem_toArray, List.getElem_cons_zero, List.getElem_cons_succ]
        refine wpAnyH_done (by kernel_rfl) ?_ _
        obtain ⟨Aw, Cw, rv⟩ := RowsE.toV (RowsQ.toE RR.out)
        have RR2 := hik rv
        clear rv RR SA
        go_wp2_with fail
        go_meet
        exact ⟨cR, cP, cV, cS, capR, capP, capV, capS, gA, Aw, Cw, rfl, rfl, rfl, rfl, rfl, RR2, hik (OwnE.pairs RP.out), hik (OwnE.pairs RV.out), hik (OwnE.pairs RS.out), E7, KW, hik lA⟩
  case rest =>
    as_aux_lemma =>
      obtain ⟨cR, cP, cV, cS, capR, capP, capV, capS, gw, Aw, Cw, rfl, rfl, rfl, rfl, rfl, VW, PW, UW, SW, RW, KW, LW⟩ := hcut
      rename World => W4
      have s4 := hik KW.out.size
      have lw := hik RW.out.lt
      replace A := hik (rowIs_keep A.out KW.out)
      replace G := hik (G.out.trans KW.out)
      have GW := hik (Chg.refl nob W4)
      clear KW
      go_wp2_with fail
      refine (toSS_any c1 len1 cap1 A1 L1 C1 f1 g1 _ (hik (RowsV.keep HP1.out G.out)) HL hn1').mono ?_
      rintro e W5 ⟨B3, rfl, r3, t3, d3, kk⟩
      have s5 := hik kk.size
      replace G := hik (G.out.trans kk)
      replace GW := hik (GW.out.trans kk)
      replace A := hik (rowIs_keep A.out kk)
      replace RW := hik (rowIs_keep RW.out kk)
      have XR := hik r3
      have XT := hik (show ∀ i, i < len1 → _ from fun i hi => (t3 i hi).2)
      have XD := hik d3
      have HB := hik (show ∀ i, i < len1 → W4.heap.size < B3 i ∧ B3 i < W5.heap.size from fun i hi => ⟨(t3 i hi).1, (t3 i hi).2.lt⟩)
      clear r3 t3 d3
      clear kk
      have zA : w.heap.size < W5.heap.size := A.out.lt
      have xA0 : W5.cell? ⟨w.heap.size, 0, none⟩ = some (.slice c2 len2 cap2) := A.out.cell (by omega)
      have xA1 : W5.cell? ⟨w.heap.size, 1, none⟩ = some (.int .i64 at2) := A.out.cell (by omega)
      have xA2 : W5.cell? ⟨w.heap.size, 2, none⟩ = some (.string st2) := A.out.cell (by omega)
      have xA3 : W5.cell? ⟨w.heap.size, 3, none⟩ = some (.int .i64 ct2) := A.out.cell (by omega)
      go_wp2_with fail
      refine (toSource_any c2 len2 cap2 f2 g2 at2 st2 ct2 _ (hik (HP2.out.keep G.out)) hn2).mono ?_
      rintro e W6 ⟨bx, hbx, rfl, hr, kk⟩
      clear zA xA0 xA1 xA2 xA3
      have s6 := hik kk.size
      replace G := hik (G.out.trans kk)
      replace GW := hik (GW.out.trans kk)
      replace A := hik (rowIs_keep A.out kk)
      replace RW := hik (rowIs_keep RW.out kk)
      replace XR := hik (rowIs_keep XR.out kk)
      replace XT := hik (show ∀ i, i < len1 → _ from fun i hi => rowIs_keep (XT.out i hi) kk)
      have Ox := hik (OwnE.of_row hr (Nat.le_refl bx))
      have lx := hik hr.lt
      have ux := hik hbx
      clear hr hbx
      clear kk
      go_upto_region 11 with fail
      have kk := (Chg.refl nob W6).alloc (.cells #[.slice (some ⟨bx, 0, none⟩) len2 len2, .int .i64 at2, .string st2, .int .i64 ct2] 31)
      have RX := hik (row4_new W6 (.slice (some ⟨bx, 0, none⟩) len2 len2) (.int .i64 at2) (.string st2) (.int .i64 ct2) 31)
      have s7 := hik (show W6.heap.size + 1 = (W6.alloc (.cells #[.slice (some ⟨bx, 0, none⟩) len2 len2, .int .i64 at2, .string st2, .int .i64 ct2] 31)).heap.size by simp)
      replace G := hik (G.out.trans kk)
      replace GW := hik (GW.out.trans kk)
      replace A := hik (rowIs_keep A.out kk)
      replace RW := hik (rowIs_keep RW.out kk)
      replace Ox := hik (Ox.out.keep kk)
      replace XR := hik (rowIs_keep XR.out kk)
      replace XT := hik (show ∀ i, i < len1 → _ from fun i hi => rowIs_keep (XT.out i hi) kk)
      clear kk
      generalize hE : W6.alloc (.cells #[.slice (some ⟨bx, 0, none⟩) len2 len2, .int .i64 at2, .string st2, .int .i64 ct2] 31) = W7 at G GW A RW RX Ox XR XT s7 ⊢
      clear hE
      have zRX : W6.heap.size < W7.heap.size := RX.out.lt
      have xRX0 : W7.cell? ⟨W6.heap.size, 0, none⟩ = some (.slice (some ⟨bx, 0, none⟩) len2 len2) := RX.out.cell (by omega)
      have xRX1 : W7.cell? ⟨W6.heap.size, 1, none⟩ = some (.int .i64 at2) := RX.out.cell (by omega)
      have xRX2 : W7.cell? ⟨W6.heap.size, 2, none⟩ = some (.string st2) := RX.out.cell (by omega)
      have xRX3 : W7.cell? ⟨W6.heap.size, 3, none⟩ = some (.int .i64 ct2) := RX.out.cell (by omega)
      go_wp2_with fail
      refine (HI.out _ _ _ _ _ (hik (CopiedSS.rows (w := w) XR.out XT.out)) (hik Ox.out.pairs) (hik (ht.out.keep G.out))).mono ?_
      rintro e W8 ⟨gR, gc, H, Cg, gP, gpc, gV, gvc, gS, gsc, rfl, rG, rP, rV, rS, rA, kk⟩
      clear zRX xRX0 xRX1 xRX2 xRX3
      have s8 := hik kk.size
      replace G := hik (G.out.trans kk)
      replace GW := hik (GW.out.trans kk)
      replace A := hik (rowIs_keep A.out kk)
      replace RW := hik (rowIs_keep RW.out kk)
      replace RX := hik (rowIs_keep RX.out kk)
      replace Ox := hik (Ox.out.keep kk)
      replace XR := hik (rowIs_keep XR.out kk)
      replace XT := hik (show ∀ i, i < len1 → _ from fun i hi => rowIs_keep (XT.out i hi) kk)
      have OG := hik rG
      have OP := hik rP
      have OV := hik rV
      have OS := hik rS
      have AP := hik rA
      have HH := hik (show ∀ i, i < nR → W7.heap.size ≤ H i ∧ H i < W8.heap.size from fun i hi => rG.above (by have := HM1.out; omega) i hi)
      clear rG rP rV rS rA
      clear kk
      go_upto_region 12 with fail
      have kk := (Chg.refl nob W8).alloc (.cells #[.slice gS nS gsc, .int .i64 aa, .string ss, .int .i64 cc] 31)
      have RG := hik (row4_new W8 (.slice gS nS gsc) (.int .i64 aa) (.string ss) (.int .i64 cc) 31)
      have s9 := hik (show W8.heap.size + 1 = (W8.alloc (.cells #[.slice gS nS gsc, .int .i64 aa, .string ss, .int .i64 cc] 31)).heap.size by simp)
      replace G := hik (G.out.trans kk)
      replace GW := hik (GW.out.trans kk)
      replace A := hik (rowIs_keep A.out kk)
      replace RW := hik (rowIs_keep RW.out kk)
      replace RX := hik (rowIs_keep RX.out kk)
      replace Ox := hik (Ox.out.keep kk)
      replace OP := hik (OP.out.keep kk)
      replace OV := hik (OV.out.keep kk)
      replace OS := hik (OS.out.keep kk)
      replace OG := hik (OG.out.keep kk)
      replace XR := hik (rowIs_keep XR.out kk)
      replace XT := hik (show ∀ i, i < len1 → _ from fun i hi => rowIs_keep (XT.out i hi) kk)
      clear kk
      generalize hE : W8.alloc (.cells #[.slice gS nS gsc, .int .i64 aa, .string ss, .int .i64 cc] 31) = W9 at G GW A RW RX RG Ox OP OV OS OG XR XT s9 ⊢
      clear hE
      go_wp2_with fail
      refine (eqSS_any gR cR nR gc capR _ _ (fun _ => m) _ _ _ _ _ _ _ (hik OG.out.rows) (hik (RowsV.keep VW.out GW.out)) (fun _ _ _ _ => ⟨rfl, rfl⟩) HLM (by have := BD.out; omega)).mono ?_
      rintro e W10 ⟨rfl, kk⟩
      have s10 := hik kk.size
      replace G := hik (G.out.trans kk)
      replace GW := hik (GW.out.trans kk)
      replace A := hik (rowIs_keep A.out kk)
      replace RW := hik (rowIs_keep RW.out kk)
      replace RX := hik (rowIs_keep RX.out kk)
      replace RG := hik (rowIs_keep RG.out kk)
      replace Ox := hik (Ox.out.keep kk)
      replace OP := hik (OP.out.keep kk)
      replace OV := hik (OV.out.keep kk)
      replace OS := hik (OS.out.keep kk)
      replace OG := hik (OG.out.keep kk)
      replace XR := hik (rowIs_keep XR.out kk)
      replace XT := hik (show ∀ i, i < len1 → _ from fun i hi => rowIs_keep (XT.out i hi) kk)
      clear kk
      go_wp2_with fail
      refine (eqExtS_any gP cP nR nR gpc capP _ _ _ _ _ (hik OP.out.pairs) (hik (PairE.keep PW.out GW.out)) rfl (fun _ _ => ⟨rfl, rfl⟩) (by have := BD.out; omega)).mono ?_
      rintro e W11 ⟨rfl, kk⟩
      have s11 := hik kk.size
      replace G := hik (G.out.trans kk)
      replace GW := hik (GW.out.trans kk)
      replace A := hik (rowIs_keep A.out kk)
      replace RW := hik (rowIs_keep RW.out kk)
      replace RX := hik (rowIs_keep RX.out kk)
      replace RG := hik (rowIs_keep RG.out kk)
      replace Ox := hik (Ox.out.keep kk)
      replace OP := hik (OP.out.keep kk)
      replace OV := hik (OV.out.keep kk)
      replace OS := hik (OS.out.keep kk)
      replace OG := hik (OG.out.keep kk)
      replace XR := hik (rowIs_keep XR.out kk)
      replace XT := hik (show ∀ i, i < len1 → _ from fun i hi => rowIs_keep (XT.out i hi) kk)
      clear kk
      go_wp2_with fail
      refine (eqExtS_any gV cV nV nV gvc capV _ _ _ _ _ (hik OV.out.pairs) (hik (PairE.keep UW.out GW.out)) rfl (fun _ _ => ⟨rfl, rfl⟩) (by have := BD.out; omega)).mono ?_
      rintro e W12 ⟨rfl, kk⟩
      have s12 := hik kk.size
      replace G := hik (G.out.trans kk)
      replace GW := hik (GW.out.trans kk)
      replace A := hik (rowIs_keep A.out kk)
      replace RW := hik (rowIs_keep RW.out kk)
      replace RX := hik (rowIs_keep RX.out kk)
      replace RG := hik (rowIs_keep RG.out kk)
      replace Ox := hik (Ox.out.keep kk)
      replace OP := hik (OP.out.keep kk)
      replace OV := hik (OV.out.keep kk)
      replace OS := hik (OS.out.keep kk)
      replace OG := hik (OG.out.keep kk)
      replace XR := hik (rowIs_keep XR.out kk)
      replace XT := hik (show ∀ i, i < len1 → _ from fun i hi => rowIs_keep (XT.out i hi) kk)
      clear kk
      have zRG : W8.heap.size < W12.heap.size := RG.out.lt
      have xRG0 : W12.cell? ⟨W8.heap.size, 0, none⟩ = some (.slice gS nS gsc) := RG.out.cell (by omega)
      have xRG1 : W12.cell? ⟨W8.heap.size, 1, none⟩ = some (.int .i64 aa) := RG.out.cell (by omega)
      have xRG2 : W12.cell? ⟨W8.heap.size, 2, none⟩ = some (.string ss) := RG.out.cell (by omega)
      have xRG3 : W12.cell? ⟨W8.heap.size, 3, none⟩ = some (.int .i64 cc) := RG.out.cell (by omega)
      have zRW : gw < W12.heap.size := RW.out.lt
      have xRW0 : W12.cell? ⟨gw, 0, none⟩ = some (.slice cS nS capS) := RW.out.cell (by omega)
      have xRW1 : W12.cell? ⟨gw, 1, none⟩ = some (.int .i64 aa) := RW.out.cell (by omega)
      have xRW2 : W12.cell? ⟨gw, 2, none⟩ = some (.string ss) := RW.out.cell (by omega)
      have xRW3 : W12.cell? ⟨gw, 3, none⟩ = some (.int .i64 cc) := RW.out.cell (by omega)
      go_wp2_with fail
      refine (eqSource_any gS cS nS nS gsc capS f2 g2 f2 g2 aa ss cc _ (hik OS.out.pairs) (hik (SW.out.keep GW.out)) rfl (fun _ _ => ⟨rfl, rfl⟩) (by have := BD.out; omega)).mono ?_
      rintro e W13 ⟨rfl, kk⟩
      clear zRG xRG0 xRG1 xRG2 xRG3 zRW xRW0 xRW1 xRW2 xRW3
      have s13 := hik kk.size
      replace G := hik (G.out.trans kk)
      replace GW := hik (GW.out.trans kk)
      replace A := hik (rowIs_keep A.out kk)
      replace RW := hik (rowIs_keep RW.out kk)
      replace RX := hik (rowIs_keep RX.out kk)
      replace RG := hik (rowIs_keep RG.out kk)
      replace Ox := hik (Ox.out.keep kk)
      replace OP := hik (OP.out.keep kk)
      replace OV := hik (OV.out.keep kk)
      replace OS := hik (OS.out.keep kk)
      replace OG := hik (OG.out.keep kk)
      replace XR := hik (rowIs_keep XR.out kk)
      replace XT := hik (show ∀ i, i < len1 → _ from fun i hi => rowIs_keep (XT.out i hi) kk)
      clear kk
      go_wp2_with fail
      refine (toSS_any c1 len1 cap1 A1 L1 C1 f1 g1 _ (hik (RowsV.keep HP1.out G.out)) HL hn1').mono ?_
      rintro e W14 ⟨By, rfl, ry, ty, dy, kk⟩
      have s14 := hik kk.size
      replace G := hik (G.out.trans kk)
      replace GW := hik (GW.out.trans kk)
      replace A := hik (rowIs_keep A.out kk)
      replace RW := hik (rowIs_keep RW.out kk)
      replace RX := hik (rowIs_keep RX.out kk)
      replace RG := hik (rowIs_keep RG.out kk)
      replace Ox := hik (Ox.out.keep kk)
      replace OP := hik (OP.out.keep kk)
      replace OV := hik (OV.out.keep kk)
      replace OS := hik (OS.out.keep kk)
      replace OG := hik (OG.out.keep kk)
      replace XR := hik (rowIs_keep XR.out kk)
      replace XT := hik (show ∀ i, i < len1 → _ from fun i hi => rowIs_keep (XT.out i hi) kk)
      have RY := hik (CopiedSS.rows (w := w) ry (fun i hi => (ty i hi).2))
      clear ry ty dy
      clear kk
      go_wp2_with fail
      refine (eqSS_any _ _ len1 len1 len1 _ _ L1 _ _ f1 g1 f1 g1 _ (hik (CopiedSS.rows (w := w) XR.out XT.out)) RY (fun _ _ _ _ => ⟨rfl, rfl⟩) HL hn1').mono ?_
      rintro e W15 ⟨rfl, kk⟩
      have s15 := hik kk.size
      replace G := hik (G.out.trans kk)
      replace GW := hik (GW.out.trans kk)
      replace A := hik (rowIs_keep A.out kk)
      replace RW := hik (rowIs_keep RW.out kk)
      replace RX := hik (rowIs_keep RX.out kk)
      replace RG := hik (rowIs_keep RG.out kk)
      replace Ox := hik (Ox.out.keep kk)
      replace OP := hik (OP.out.keep kk)
      replace OV := hik (OV.out.keep kk)
      replace OS := hik (OS.out.keep kk)
      replace OG := hik (OG.out.keep kk)
      replace XR := hik (rowIs_keep XR.out kk)
      replace XT := hik (show ∀ i, i < len1 → _ from fun i hi => rowIs_keep (XT.out i hi) kk)
      clear RY
      clear kk
      have zA : w.heap.size < W15.heap.size := A.out.lt
      have xA0 : W15.cell? ⟨w.heap.size, 0, none⟩ = some (.slice c2 len2 cap2) := A.out.cell (by omega)
      have xA1 : W15.cell? ⟨w.heap.size, 1, none⟩ = some (.int .i64 at2) := A.out.cell (by omega)
      have xA2 : W15.cell? ⟨w.heap.size, 2, none⟩ = some (.string st2) := A.out.cell (by omega)
      have xA3 : W15.cell? ⟨w.heap.size, 3, none⟩ = some (.int .i64 ct2) := A.out.cell (by omega)
      have zRX : W6.heap.size < W15.heap.size := RX.out.lt
      have xRX0 : W15.cell? ⟨W6.heap.size, 0, none⟩ = some (.slice (some ⟨bx, 0, none⟩) len2 len2) := RX.out.cell (by omega)
      have xRX1 : W15.cell? ⟨W6.heap.size, 1, none⟩ = some (.int .i64 at2) := RX.out.cell (by omega)
      have xRX2 : W15.cell? ⟨W6.heap.size, 2, none⟩ = some (.string st2) := RX.out.cell (by omega)
      have xRX3 : W15.cell? ⟨W6.heap.size, 3, none⟩ = some (.int .i64 ct2) := RX.out.cell (by omega)
      go_wp2_with fail
      go_region_held3 (fun w' => (w'.cell? ⟨w.heap.size, 0, none⟩ = some (.slice c2 len2 cap2) ∧ w'.cell? ⟨w.heap.size, 1, none⟩ = some (.int .i64 at2) ∧ w'.cell? ⟨w.heap.size, 2, none⟩ = some (.string st2) ∧ w'.cell? ⟨w.heap.size, 3, none⟩ = some (.int .i64 ct2)) ∧ w'.cell? ⟨W6.heap.size, 0, none⟩ = some (.slice (some ⟨bx, 0, none⟩) len2 len2) ∧ w'.cell? ⟨W6.heap.size, 1, none⟩ = some (.int .i64 at2) ∧ w'.cell? ⟨W6.heap.size, 2, none⟩ = some (.string st2) ∧ w'.cell? ⟨W6.heap.size, 3, none⟩ = some (.int .i64 ct2)) (first | (exact ⟨⟨xA0, xA1, xA2, xA3⟩, xRX0, xRX1, xRX2, xRX3⟩) | (exact ⟨⟨k6.look xA0, k6.look xA1, k6.look xA2, k6.look xA3⟩, k6.look xRX0, k6.look xRX1, k6.look xRX2, k6.look xRX3⟩) | (exact ⟨⟨k7.look (k6.look xA0), k7.look (k6.look xA1), k7.look (k6.look xA2), k7.look (k6.look xA3)⟩, k7.look (k6.look xRX0), k7.look (k6.look xRX1), k7.look (k6.look xRX2), k7.look (k6.look xRX3)⟩)) (first | (go_at_call 9; refine (toSource_any c2 len2 cap2 f2 g2 at2 st2 ct2 _ (hik (HP2.out.keep G.out.drew1)) hn2).mono ?_; rintro e W16 ⟨by_, hby, rfl, hry, k6⟩) | (go_at_call 13; refine (eqSource_any (some ⟨bx, 0, none⟩) (some ⟨by_, 0, none⟩) len2 len2 len2 len2 f2 g2 f2 g2 at2 st2 ct2 _ (hik (Ox.out.pairs.keep (((Chg.refl nob _).drew1).trans k6))) (hik (PairV.of_row hry (Nat.le_refl _))) rfl (fun _ _ => ⟨rfl, rfl⟩) hn2).mono ?_; rintro e W17 ⟨rfl, k7⟩))
      clear zA xA0 xA1 xA2 xA3 zRX xRX0 xRX1 xRX2 xRX3
      have kk := ((Chg.refl nob W15).drew1).trans (k6.trans k7)
      have s17 := hik kk.size
      replace G := hik (G.out.trans kk)
      replace GW := hik (GW.out.trans kk)
      replace A := hik (rowIs_keep A.out kk)
      replace RW := hik (rowIs_keep RW.out kk)
      replace RX := hik (rowIs_keep RX.out kk)
      replace RG := hik (rowIs_keep RG.out kk)
      replace Ox := hik (Ox.out.keep kk)
      replace OP := hik (OP.out.keep kk)
      replace OV := hik (OV.out.keep kk)
      replace OS := hik (OS.out.keep kk)
      replace OG := hik (OG.out.keep kk)
      replace XR := hik (rowIs_keep XR.out kk)
      replace XT := hik (show ∀ i, i < len1 → _ from fun i hi => rowIs_keep (XT.out i hi) kk)
      clear k6 k7 kk hry
      go_wp2_with fail
      refine (markSS_own W4.heap.size len1 L1 B3 f1 g1 1 _ XR (hik (fun i hi => ⟨(HB.out i hi).1, XT.out i hi⟩)) XD (hik hT1) hn1 (by omega) (by omega)).mono ?_
      rintro e W18 ⟨rfl, kk⟩
      have s18 := hik kk.size
      replace G := hik (G.out.near kk (fun b ⟨i, hi, e⟩ => by have hB := HB.out i hi; have := s1.out; have := s2.out; have := s3.out; have := s4.out; have := lw.out; have := LW.out; have := s5.out; have := s6.out; have := lx.out; have := ux.out; have := s7.out; have := s8.out; have := s9.out; have := s10.out; have := s11.out; have := s12.out; have := s13.out; have := s14.out; have := s15.out; have := s17.out; have := s18.out; omega))
      replace GW := hik (GW.out.near kk (fun b ⟨i, hi, e⟩ => by have hB := HB.out i hi; have := s1.out; have := s2.out; have := s3.out; have := s4.out; have := lw.out; have := LW.out; have := s5.out; have := s6.out; have := lx.out; have := ux.out; have := s7.out; have := s8.out; have := s9.out; have := s10.out; have := s11.out; have := s12.out; have := s13.out; have := s14.out; have := s15.out; have := s17.out; have := s18.out; omega))
      replace A := hik (rowIs_chg A.out kk (fun ⟨i, hi, e⟩ => by have hB := HB.out i hi; have := s1.out; have := s2.out; have := s3.out; have := s4.out; have := lw.out; have := LW.out; have := s5.out; have := s6.out; have := lx.out; have := ux.out; have := s7.out; have := s8.out; have := s9.out; have := s10.out; have := s11.out; have := s12.out; have := s13.out; have := s14.out; have := s15.out; have := s17.out; have := s18.out; omega))
      replace RW := hik (rowIs_chg RW.out kk (fun ⟨i, hi, e⟩ => by have hB := HB.out i hi; have := s1.out; have := s2.out; have := s3.out; have := s4.out; have := lw.out; have := LW.out; have := s5.out; have := s6.out; have := lx.out; have := ux.out; have := s7.out; have := s8.out; have := s9.out; have := s10.out; have := s11.out; have := s12.out; have := s13.out; have := s14.out; have := s15.out; have := s17.out; have := s18.out; omega))
      replace RX := hik (rowIs_chg RX.out kk (fun ⟨i, hi, e⟩ => by have hB := HB.out i hi; have := s1.out; have := s2.out; have := s3.out; have := s4.out; have := lw.out; have := LW.out; have := s5.out; have := s6.out; have := lx.out; have := ux.out; have := s7.out; have := s8.out; have := s9.out; have := s10.out; have := s11.out; have := s12.out; have := s13.out; have := s14.out; have := s15.out; have := s17.out; have := s18.out; omega))
      replace RG := hik (rowIs_chg RG.out kk (fun ⟨i, hi, e⟩ => by have hB := HB.out i hi; have := s1.out; have := s2.out; have := s3.out; have := s4.out; have := lw.out; have := LW.out; have := s5.out; have := s6.out; have := lx.out; have := ux.out; have := s7.out; have := s8.out; have := s9.out; have := s10.out; have := s11.out; have := s12.out; have := s13.out; have := s14.out; have := s15.out; have := s17.out; have := s18.out; omega))
      replace Ox := hik (Ox.out.chg kk (fun b hb _ ⟨i, hi, e⟩ => by have hB := HB.out i hi; have := s1.out; have := s2.out; have := s3.out; have := s4.out; have := lw.out; have := LW.out; have := s5.out; have := s6.out; have := lx.out; have := ux.out; have := s7.out; have := s8.out; have := s9.out; have := s10.out; have := s11.out; have := s12.out; have := s13.out; have := s14.out; have := s15.out; have := s17.out; have := s18.out; omega))
      replace OP := hik (OP.out.chg kk (fun b hb _ ⟨i, hi, e⟩ => by have hB := HB.out i hi; have := s1.out; have := s2.out; have := s3.out; have := s4.out; have := lw.out; have := LW.out; have := s5.out; have := s6.out; have := lx.out; have := ux.out; have := s7.out; have := s8.out; have := s9.out; have := s10.out; have := s11.out; have := s12.out; have := s13.out; have := s14.out; have := s15.out; have := s17.out; have := s18.out; omega))
      replace OV := hik (OV.out.chg kk (fun b hb _ ⟨i, hi, e⟩ => by have hB := HB.out i hi; have := s1.out; have := s2.out; have := s3.out; have := s4.out; have := lw.out; have := LW.out; have := s5.out; have := s6.out; have := lx.out; have := ux.out; have := s7.out; have := s8.out; have := s9.out; have := s10.out; have := s11.out; have := s12.out; have := s13.out; have := s14.out; have := s15.out; have := s17.out; have := s18.out; omega))
      replace OS := hik (OS.out.chg kk (fun b hb _ ⟨i, hi, e⟩ => by have hB := HB.out i hi; have := s1.out; have := s2.out; have := s3.out; have := s4.out; have := lw.out; have := LW.out; have := s5.out; have := s6.out; have := lx.out; have := ux.out; have := s7.out; have := s8.out; have := s9.out; have := s10.out; have := s11.out; have := s12.out; have := s13.out; have := s14.out; have := s15.out; have := s17.out; have := s18.out; omega))
      replace OG := hik (OG.out.chg kk (fun xb xo ec _ hb _ ⟨i, hi, e⟩ => by have hB := HB.out i hi; have := s1.out; have := s2.out; have := s3.out; have := s4.out; have := lw.out; have := LW.out; have := s5.out; have := s6.out; have := lx.out; have := ux.out; have := s7.out; have := s8.out; have := s9.out; have := s10.out; have := s11.out; have := s12.out; have := s13.out; have := s14.out; have := s15.out; have := s17.out; have := s18.out; omega) (fun j hj ⟨i, hi, e⟩ => by have hJ := HH.out j hj; have hB := HB.out i hi; have := s1.out; have := s2.out; have := s3.out; have := s4.out; have := lw.out; have := LW.out; have := s5.out; have := s6.out; have := lx.out; have := ux.out; have := s7.out; have := s8.out; have := s9.out; have := s10.out; have := s11.out; have := s12.out; have := s13.out; have := s14.out; have := s15.out; have := s17.out; have := s18.out; omega))
      clear XR XT XD
      clear kk
      have zRX : W6.heap.size < W18.heap.size := RX.out.lt
      have xRX0 : W18.cell? ⟨W6.heap.size, 0, none⟩ = some (.slice (some ⟨bx, 0, none⟩) len2 len2) := RX.out.cell (by omega)
      have xRX1 : W18.cell? ⟨W6.heap.size, 1, none⟩ = some (.int .i64 at2) := RX.out.cell (by omega)
      have xRX2 : W18.cell? ⟨W6.heap.size, 2, none⟩ = some (.string st2) := RX.out.cell (by omega)
      have xRX3 : W18.cell? ⟨W6.heap.size, 3, none⟩ = some (.int .i64 ct2) := RX.out.cell (by omega)
      go_wp2_with fail
      refine (markSource_own bx (some ⟨bx, 0, none⟩) len2 len2 f2 g2 at2 st2 ct2 (1 + 2 * (tot L1 len1 : Int)) _ Ox hn2 (by omega) (by omega) (by have := s1.out; have := s2.out; have := s3.out; have := s4.out; have := lw.out; have := LW.out; have := s5.out; have := s6.out; have := lx.out; have := ux.out; have := s7.out; have := s8.out; have := s9.out; have := s10.out; have := s11.out; have := s12.out; have := s13.out; have := s14.out; have := s15.out; have := s17.out; have := s18.out; omega)).mono ?_
      rintro e W19 ⟨rfl, ox, kk⟩
      clear zRX xRX0 xRX1 xRX2 xRX3
      have s19 := hik kk.size
      replace G := hik (G.out.near kk (fun b m => by have m0 := m.1; have := s1.out; have := s2.out; have := s3.out; have := s4.out; have := lw.out; have := LW.out; have := s5.out; have := s6.out; have := lx.out; have := ux.out; have := s7.out; have := s8.out; have := s9.out; have := s10.out; have := s11.out; have := s12.out; have := s13.out; have := s14.out; have := s15.out; have := s17.out; have := s18.out; have := s19.out; omega))
      replace GW := hik (GW.out.near kk (fun b m => by have m0 := m.1; have := s1.out; have := s2.out; have := s3.out; have := s4.out; have := lw.out; have := LW.out; have := s5.out; have := s6.out; have := lx.out; have := ux.out; have := s7.out; have := s8.out; have := s9.out; have := s10.out; have := s11.out; have := s12.out; have := s13.out; have := s14.out; have := s15.out; have := s17.out; have := s18.out; have := s19.out; omega))
      replace A := hik (rowIs_chg A.out kk (Mkb.not A.out (by decide)))
      replace RW := hik (rowIs_chg RW.out kk (Mkb.not RW.out (by decide)))
      replace RX := hik (rowIs_chg RX.out kk (Mkb.not RX.out (by decide)))
      replace RG := hik (rowIs_chg RG.out kk (Mkb.not RG.out (by decide)))
      replace OP := hik (OP.out.chg kk (fun b hb _ m => by have m1 := m.2.1; simp at m1; have := s1.out; have := s2.out; have := s3.out; have := s4.out; have := lw.out; have := LW.out; have := s5.out; have := s6.out; have := lx.out; have := ux.out; have := s7.out; have := s8.out; have := s9.out; have := s10.out; have := s11.out; have := s12.out; have := s13.out; have := s14.out; have := s15.out; have := s17.out; have := s18.out; have := s19.out; omega))
      replace OV := hik (OV.out.chg kk (fun b hb _ m => by have m1 := m.2.1; simp at m1; have := s1.out; have := s2.out; have := s3.out; have := s4.out; have := lw.out; have := LW.out; have := s5.out; have := s6.out; have := lx.out; have := ux.out; have := s7.out; have := s8.out; have := s9.out; have := s10.out; have := s11.out; have := s12.out; have := s13.out; have := s14.out; have := s15.out; have := s17.out; have := s18.out; have := s19.out; omega))
      replace OS := hik (OS.out.chg kk (fun b hb _ m => by have m1 := m.2.1; simp at m1; have := s1.out; have := s2.out; have := s3.out; have := s4.out; have := lw.out; have := LW.out; have := s5.out; have := s6.out; have := lx.out; have := ux.out; have := s7.out; have := s8.out; have := s9.out; have := s10.out; have := s11.out; have := s12.out; have := s13.out; have := s14.out; have := s15.out; have := s17.out; have := s18.out; have := s19.out; omega))
      replace OG := hik (OG.out.chg kk (fun xb xo ec _ hb _ m => by have m1 := m.2.1; simp at m1; have := s1.out; have := s2.out; have := s3.out; have := s4.out; have := lw.out; have := LW.out; have := s5.out; have := s6.out; have := lx.out; have := ux.out; have := s7.out; have := s8.out; have := s9.out; have := s10.out; have := s11.out; have := s12.out; have := s13.out; have := s14.out; have := s15.out; have := s17.out; have := s18.out; have := s19.out; omega) (fun j hj m => by have m1 := m.2.1; have hJ := HH.out j hj; simp at m1; have := s1.out; have := s2.out; have := s3.out; have := s4.out; have := lw.out; have := LW.out; have := s5.out; have := s6.out; have := lx.out; have := ux.out; have := s7.out; have := s8.out; have := s9.out; have := s10.out; have := s11.out; have := s12.out; have := s13.out; have := s14.out; have := s15.out; have := s17.out; have := s18.out; have := s19.out; omega))
      clear ox Ox
      clear kk
      clear RX
      go_wp2_with fail
      refine (eqSS_any gR cR nR gc capR _ _ (fun _ => m) _ _ _ _ _ _ _ (hik OG.out.rows) (hik (RowsV.keep VW.out GW.out)) (fun _ _ _ _ => ⟨rfl, rfl⟩) HLM (by have := BD.out; omega)).mono ?_
      rintro e W20 ⟨rfl, kk⟩
      have s20 := hik kk.size
      replace G := hik (G.out.trans kk)
      replace GW := hik (GW.out.trans kk)
      replace A := hik (rowIs_keep A.out kk)
      replace RW := hik (rowIs_keep RW.out kk)
      replace RG := hik (rowIs_keep RG.out kk)
      replace OP := hik (OP.out.keep kk)
      replace OV := hik (OV.out.keep kk)
      replace OS := hik (OS.out.keep kk)
      replace OG := hik (OG.out.keep kk)
      clear kk
      go_wp2_with fail
      refine (eqExtS_any gP cP nR nR gpc capP _ _ _ _ _ (hik OP.out.pairs) (hik (PairE.keep PW.out GW.out)) rfl (fun _ _ => ⟨rfl, rfl⟩) (by have := BD.out; omega)).mono ?_
      rintro e W21 ⟨rfl, kk⟩
      have s21 := hik kk.size
      replace G := hik (G.out.trans kk)
      replace GW := hik (GW.out.trans kk)
      replace A := hik (rowIs_keep A.out kk)
      replace RW := hik (rowIs_keep RW.out kk)
      replace RG := hik (rowIs_keep RG.out kk)
      replace OP := hik (OP.out.keep kk)
      replace OV := hik (OV.out.keep kk)
      replace OS := hik (OS.out.keep kk)
      replace OG := hik (OG.out.keep kk)
      clear kk
      go_wp2_with fail
      refine (eqExtS_any gV cV nV nV gvc capV _ _ _ _ _ (hik OV.out.pairs) (hik (PairE.keep UW.out GW.out)) rfl (fun _ _ => ⟨rfl, rfl⟩) (by have := BD.out; omega)).mono ?_
      rintro e W22 ⟨rfl, kk⟩
      have s22 := hik kk.size
      replace G := hik (G.out.trans kk)
      replace GW := hik (GW.out.trans kk)
      replace A := hik (rowIs_keep A.out kk)
      replace RW := hik (rowIs_keep RW.out kk)
      replace RG := hik (rowIs_keep RG.out kk)
      replace OP := hik (OP.out.keep kk)
      replace OV := hik (OV.out.keep kk)
      replace OS := hik (OS.out.keep kk)
      replace OG := hik (OG.out.keep kk)
      clear kk
      have zRG : W8.heap.size < W22.heap.size := RG.out.lt
      have xRG0 : W22.cell? ⟨W8.heap.size, 0, none⟩ = some (.slice gS nS gsc) := RG.out.cell (by omega)
      have xRG1 : W22.cell? ⟨W8.heap.size, 1, none⟩ = some (.int .i64 aa) := RG.out.cell (by omega)
      have xRG2 : W22.cell? ⟨W8.heap.size, 2, none⟩ = some (.string ss) := RG.out.cell (by omega)
      have xRG3 : W22.cell? ⟨W8.heap.size, 3, none⟩ = some (.int .i64 cc) := RG.out.cell (by omega)
      have zRW : gw < W22.heap.size := RW.out.lt
      have xRW0 : W22.cell? ⟨gw, 0, none⟩ = some (.slice cS nS capS) := RW.out.cell (by omega)
      have xRW1 : W22.cell? ⟨gw, 1, none⟩ = some (.int .i64 aa) := RW.out.cell (by omega)
      have xRW2 : W22.cell? ⟨gw, 2, none⟩ = some (.string ss) := RW.out.cell (by omega)
      have xRW3 : W22.cell? ⟨gw, 3, none⟩ = some (.int .i64 cc) := RW.out.cell (by omega)
      go_wp2_with fail
      refine (eqSource_any gS cS nS nS gsc capS f2 g2 f2 g2 aa ss cc _ (hik OS.out.pairs) (hik (SW.out.keep GW.out)) rfl (fun _ _ => ⟨rfl, rfl⟩) (by have := BD.out; omega)).mono ?_
      rintro e W23 ⟨rfl, kk⟩
      clear zRG xRG0 xRG1 xRG2 xRG3 zRW xRW0 xRW1 xRW2 xRW3
      have s23 := hik kk.size
      replace G := hik (G.out.trans kk)
      replace GW := hik (GW.out.trans kk)
      replace A := hik (rowIs_keep A.out kk)
      replace RW := hik (rowIs_keep RW.out kk)
      replace RG := hik (rowIs_keep RG.out kk)
      replace OP := hik (OP.out.keep kk)
      replace OV := hik (OV.out.keep kk)
      replace OS := hik (OS.out.keep kk)
      replace OG := hik (OG.out.keep kk)
      clear kk
      go_wp2_with fail
      refine (markOS_own W7.heap.size gR nR gc m H Cg _ _ 1 _ OG (by have := BD.out; omega) (by have := BD.out; omega) (by omega) (by omega)).mono ?_
      rintro e W24 ⟨he, og, kk⟩
      have s24 := hik kk.size
      replace G := hik (G.out.near kk (fun b ⟨i, hi, e⟩ => by have hB := HH.out i hi; have := s1.out; have := s2.out; have := s3.out; have := s4.out; have := lw.out; have := LW.out; have := s5.out; have := s6.out; have := lx.out; have := ux.out; have := s7.out; have := s8.out; have := s9.out; have := s10.out; have := s11.out; have := s12.out; have := s13.out; have := s14.out; have := s15.out; have := s17.out; have := s18.out; have := s19.out; have := s20.out; have := s21.out; have := s22.out; have := s23.out; have := s24.out; omega))
      replace GW := hik (GW.out.near kk (fun b ⟨i, hi, e⟩ => by have hB := HH.out i hi; have := s1.out; have := s2.out; have := s3.out; have := s4.out; have := lw.out; have := LW.out; have := s5.out; have := s6.out; have := lx.out; have := ux.out; have := s7.out; have := s8.out; have := s9.out; have := s10.out; have := s11.out; have := s12.out; have := s13.out; have := s14.out; have := s15.out; have := s17.out; have := s18.out; have := s19.out; have := s20.out; have := s21.out; have := s22.out; have := s23.out; have := s24.out; omega))
      replace A := hik (rowIs_chg A.out kk (fun ⟨i, hi, e⟩ => by have hB := HH.out i hi; have := s1.out; have := s2.out; have := s3.out; have := s4.out; have := lw.out; have := LW.out; have := s5.out; have := s6.out; have := lx.out; have := ux.out; have := s7.out; have := s8.out; have := s9.out; have := s10.out; have := s11.out; have := s12.out; have := s13.out; have := s14.out; have := s15.out; have := s17.out; have := s18.out; have := s19.out; have := s20.out; have := s21.out; have := s22.out; have := s23.out; have := s24.out; omega))
      replace RW := hik (rowIs_chg RW.out kk (fun ⟨i, hi, e⟩ => by have hB := HH.out i hi; have := s1.out; have := s2.out; have := s3.out; have := s4.out; have := lw.out; have := LW.out; have := s5.out; have := s6.out; have := lx.out; have := ux.out; have := s7.out; have := s8.out; have := s9.out; have := s10.out; have := s11.out; have := s12.out; have := s13.out; have := s14.out; have := s15.out; have := s17.out; have := s18.out; have := s19.out; have := s20.out; have := s21.out; have := s22.out; have := s23.out; have := s24.out; omega))
      replace RG := hik (rowIs_chg RG.out kk (fun ⟨i, hi, e⟩ => by have hB := HH.out i hi; have := s1.out; have := s2.out; have := s3.out; have := s4.out; have := lw.out; have := LW.out; have := s5.out; have := s6.out; have := lx.out; have := ux.out; have := s7.out; have := s8.out; have := s9.out; have := s10.out; have := s11.out; have := s12.out; have := s13.out; have := s14.out; have := s15.out; have := s17.out; have := s18.out; have := s19.out; have := s20.out; have := s21.out; have := s22.out; have := s23.out; have := s24.out; omega))
      replace OP := hik (OP.out.chg kk (fun b hb ec ⟨i, hi, e⟩ => (AP.out.1 b (.inr ⟨i, hi, e⟩)).1 ⟨0, ec⟩))
      replace OV := hik (OV.out.chg kk (fun b hb ec ⟨i, hi, e⟩ => (AP.out.1 b (.inr ⟨i, hi, e⟩)).2.1 ⟨0, ec⟩))
      replace OS := hik (OS.out.chg kk (fun b hb ec ⟨i, hi, e⟩ => (AP.out.1 b (.inr ⟨i, hi, e⟩)).2.2 ⟨0, ec⟩))
      replace OG := hik og
      clear og
      rw [← HPM.out] at he
      subst he
      clear kk
      go_wp2_with fail
      refine (markExtS_own W7.heap.size gP nR gpc _ _ (1 + 2 * (p : Int)) _ OP (by have := BD.out; omega) (by omega) (by omega)).mono ?_
      rintro e W25 ⟨rfl, og, kk⟩
      have s25 := hik kk.size
      replace G := hik (G.out.near kk (fun b m => by have m0 := m.1; have := s1.out; have := s2.out; have := s3.out; have := s4.out; have := lw.out; have := LW.out; have := s5.out; have := s6.out; have := lx.out; have := ux.out; have := s7.out; have := s8.out; have := s9.out; have := s10.out; have := s11.out; have := s12.out; have := s13.out; have := s14.out; have := s15.out; have := s17.out; have := s18.out; have := s19.out; have := s20.out; have := s21.out; have := s22.out; have := s23.out; have := s24.out; have := s25.out; omega))
      replace GW := hik (GW.out.near kk (fun b m => by have m0 := m.1; have := s1.out; have := s2.out; have := s3.out; have := s4.out; have := lw.out; have := LW.out; have := s5.out; have := s6.out; have := lx.out; have := ux.out; have := s7.out; have := s8.out; have := s9.out; have := s10.out; have := s11.out; have := s12.out; have := s13.out; have := s14.out; have := s15.out; have := s17.out; have := s18.out; have := s19.out; have := s20.out; have := s21.out; have := s22.out; have := s23.out; have := s24.out; have := s25.out; omega))
      replace A := hik (rowIs_chg A.out kk (Mkb.not A.out (by decide)))
      replace RW := hik (rowIs_chg RW.out kk (Mkb.not RW.out (by decide)))
      replace RG := hik (rowIs_chg RG.out kk (Mkb.not RG.out (by decide)))
      replace OV := hik (OV.out.chg kk (fun b hb ec m => (AP.out.2.1 b ⟨0, m.2.1⟩).1 ⟨0, ec⟩))
      replace OS := hik (OS.out.chg kk (fun b hb ec m => (AP.out.2.1 b ⟨0, m.2.1⟩).2 ⟨0, ec⟩))
      replace OG := hik (OG.out.chg kk (fun xb xo ec _ hb _ m => (AP.out.1 xb (.inl ⟨xo, ec⟩)).1 ⟨0, m.2.1⟩) (fun j hj m => (AP.out.1 _ (.inr ⟨j, hj, rfl⟩)).1 ⟨0, m.2.1⟩))
      replace OP := hik og
      clear og
      clear kk
      go_wp2_with fail
      refine (markExtS_own W7.heap.size gV nV gvc _ _ (1 + 2 * (p : Int) + 2 * (nR : Int)) _ OV (by have := BD.out; omega) (by have := BD.out; omega) (by have := BD.out; omega)).mono ?_
      rintro e W26 ⟨rfl, og, kk⟩
      have s26 := hik kk.size
      replace G := hik (G.out.near kk (fun b m => by have m0 := m.1; have := s1.out; have := s2.out; have := s3.out; have := s4.out; have := lw.out; have := LW.out; have := s5.out; have := s6.out; have := lx.out; have := ux.out; have := s7.out; have := s8.out; have := s9.out; have := s10.out; have := s11.out; have := s12.out; have := s13.out; have := s14.out; have := s15.out; have := s17.out; have := s18.out; have := s19.out; have := s20.out; have := s21.out; have := s22.out; have := s23.out; have := s24.out; have := s25.out; have := s26.out; omega))
      replace GW := hik (GW.out.near kk (fun b m => by have m0 := m.1; have := s1.out; have := s2.out; have := s3.out; have := s4.out; have := lw.out; have := LW.out; have := s5.out; have := s6.out; have := lx.out; have := ux.out; have := s7.out; have := s8.out; have := s9.out; have := s10.out; have := s11.out; have := s12.out; have := s13.out; have := s14.out; have := s15.out; have := s17.out; have := s18.out; have := s19.out; have := s20.out; have := s21.out; have := s22.out; have := s23.out; have := s24.out; have := s25.out; have := s26.out; omega))
      replace A := hik (rowIs_chg A.out kk (Mkb.not A.out (by decide)))
      replace RW := hik (rowIs_chg RW.out kk (Mkb.not RW.out (by decide)))
      replace RG := hik (rowIs_chg RG.out kk (Mkb.not RG.out (by decide)))
      replace OP := hik (OP.out.chg kk (fun b hb ec m => (AP.out.2.1 b ⟨0, ec⟩).1 ⟨0, m.2.1⟩))
      replace OS := hik (OS.out.chg kk (fun b hb ec m => AP.out.2.2 b ⟨0, m.2.1⟩ ⟨0, ec⟩))
      replace OG := hik (OG.out.chg kk (fun xb xo ec _ hb _ m => (AP.out.1 xb (.inl ⟨xo, ec⟩)).2.1 ⟨0, m.2.1⟩) (fun j hj m => (AP.out.1 _ (.inr ⟨j, hj, rfl⟩)).2.1 ⟨0, m.2.1⟩))
      replace OV := hik og
      clear og
      clear kk
      have zRG : W8.heap.size < W26.heap.size := RG.out.lt
      have xRG0 : W26.cell? ⟨W8.heap.size, 0, none⟩ = some (.slice gS nS gsc) := RG.out.cell (by omega)
      have xRG1 : W26.cell? ⟨W8.heap.size, 1, none⟩ = some (.int .i64 aa) := RG.out.cell (by omega)
      have xRG2 : W26.cell? ⟨W8.heap.size, 2, none⟩ = some (.string ss) := RG.out.cell (by omega)
      have xRG3 : W26.cell? ⟨W8.heap.size, 3, none⟩ = some (.int .i64 cc) := RG.out.cell (by omega)
      go_wp2_with fail
      refine (markSource_own W7.heap.size gS nS gsc _ _ aa ss cc (1 + 2 * (p : Int) + 2 * (nR : Int) + 2 * (nV : Int)) _ OS (by have := BD.out; omega) (by have := BD.out; omega) (by have := BD.out; omega) (by have := s1.out; have := s2.out; have := s3.out; have := s4.out; have := lw.out; have := LW.out; have := s5.out; have := s6.out; have := lx.out; have := ux.out; have := s7.out; have := s8.out; have := s9.out; have := s10.out; have := s11.out; have := s12.out; have := s13.out; have := s14.out; have := s15.out; have := s17.out; have := s18.out; have := s19.out; have := s20.out; have := s21.out; have := s22.out; have := s23.out; have := s24.out; have := s25.out; have := s26.out; omega)).mono ?_
      rintro e W27 ⟨rfl, og, kk⟩
      clear zRG xRG0 xRG1 xRG2 xRG3
      have s27 := hik kk.size
      replace G := hik (G.out.near kk (fun b m => by have m0 := m.1; have := s1.out; have := s2.out; have := s3.out; have := s4.out; have := lw.out; have := LW.out; have := s5.out; have := s6.out; have := lx.out; have := ux.out; have := s7.out; have := s8.out; have := s9.out; have := s10.out; have := s11.out; have := s12.out; have := s13.out; have := s14.out; have := s15.out; have := s17.out; have := s18.out; have := s19.out; have := s20.out; have := s21.out; have := s22.out; have := s23.out; have := s24.out; have := s25.out; have := s26.out; have := s27.out; omega))
      replace GW := hik (GW.out.near kk (fun b m => by have m0 := m.1; have := s1.out; have := s2.out; have := s3.out; have := s4.out; have := lw.out; have := LW.out; have := s5.out; have := s6.out; have := lx.out; have := ux.out; have := s7.out; have := s8.out; have := s9.out; have := s10.out; have := s11.out; have := s12.out; have := s13.out; have := s14.out; have := s15.out; have := s17.out; have := s18.out; have := s19.out; have := s20.out; have := s21.out; have := s22.out; have := s23.out; have := s24.out; have := s25.out; have := s26.out; have := s27.out; omega))
      replace A := hik (rowIs_chg A.out kk (Mkb.not A.out (by decide)))
      replace RW := hik (rowIs_chg RW.out kk (Mkb.not RW.out (by decide)))
      replace RG := hik (rowIs_chg RG.out kk (Mkb.not RG.out (by decide)))
      replace OP := hik (OP.out.chg kk (fun b hb ec m => (AP.out.2.1 b ⟨0, ec⟩).2 ⟨0, m.2.1⟩))
      replace OV := hik (OV.out.chg kk (fun b hb ec m => AP.out.2.2 b ⟨0, ec⟩ ⟨0, m.2.1⟩))
      replace OG := hik (OG.out.chg kk (fun xb xo ec _ hb _ m => (AP.out.1 xb (.inl ⟨xo, ec⟩)).2.2 ⟨0, m.2.1⟩) (fun j hj m => (AP.out.1 _ (.inr ⟨j, hj, rfl⟩)).2.2 ⟨0, m.2.1⟩))
      replace OS := hik og
      clear og
      clear kk
      go_wp2_with fail
      refine (heldOS_own gR nR gc m _ Cg 1 _ (hik OG.out.rows) (by have := BD.out; omega) (by have := BD.out; omega) (by omega) (by omega)).mono ?_
      rintro e W28 ⟨he, kk⟩
      have s28 := hik kk.size
      replace G := hik (G.out.trans kk)
      replace GW := hik (GW.out.trans kk)
      replace A := hik (rowIs_keep A.out kk)
      replace RW := hik (rowIs_keep RW.out kk)
      replace RG := hik (rowIs_keep RG.out kk)
      replace OP := hik (OP.out.keep kk)
      replace OV := hik (OV.out.keep kk)
      replace OS := hik (OS.out.keep kk)
      replace OG := hik (OG.out.keep kk)
      rw [← HPM.out] at he
      subst he
      clear kk
      go_wp2_with fail
      refine (heldExtS_own gP nR gpc (1 + 2 * (p : Int)) _ (hik OP.out.pairs) (by have := BD.out; omega) (by omega) (by omega)).mono ?_
      rintro e W29 ⟨rfl, kk⟩
      have s29 := hik kk.size
      replace G := hik (G.out.trans kk)
      replace GW := hik (GW.out.trans kk)
      replace A := hik (rowIs_keep A.out kk)
      replace RW := hik (rowIs_keep RW.out kk)
      replace RG := hik (rowIs_keep RG.out kk)
      replace OP := hik (OP.out.keep kk)
      replace OV := hik (OV.out.keep kk)
      replace OS := hik (OS.out.keep kk)
      replace OG := hik (OG.out.keep kk)
      clear kk
      go_wp2_with fail
      refine (heldExtS_own gV nV gvc (1 + 2 * (p : Int) + 2 * (nR : Int)) _ (hik OV.out.pairs) (by have := BD.out; omega) (by have := BD.out; omega) (by have := BD.out; omega)).mono ?_
      rintro e W30 ⟨rfl, kk⟩
      have s30 := hik kk.size
      replace G := hik (G.out.trans kk)
      replace GW := hik (GW.out.trans kk)
      replace A := hik (rowIs_keep A.out kk)
      replace RW := hik (rowIs_keep RW.out kk)
      replace RG := hik (rowIs_keep RG.out kk)
      replace OP := hik (OP.out.keep kk)
      replace OV := hik (OV.out.keep kk)
      replace OS := hik (OS.out.keep kk)
      replace OG := hik (OG.out.keep kk)
      clear kk
      have zRG : W8.heap.size < W30.heap.size := RG.out.lt
      have xRG0 : W30.cell? ⟨W8.heap.size, 0, none⟩ = some (.slice gS nS gsc) := RG.out.cell (by omega)
      have xRG1 : W30.cell? ⟨W8.heap.size, 1, none⟩ = some (.int .i64 aa) := RG.out.cell (by omega)
      have xRG2 : W30.cell? ⟨W8.heap.size, 2, none⟩ = some (.string ss) := RG.out.cell (by omega)
      have xRG3 : W30.cell? ⟨W8.heap.size, 3, none⟩ = some (.int .i64 cc) := RG.out.cell (by omega)
      go_wp2_with fail
      refine (heldSource_own gS nS gsc aa ss cc (1 + 2 * (p : Int) + 2 * (nR : Int) + 2 * (nV : Int)) _ (hik OS.out.pairs) (by have := BD.out; omega) (by have := BD.out; omega) (by have := BD.out; omega)).mono ?_
      rintro e W31 ⟨rfl, kk⟩
      clear zRG xRG0 xRG1 xRG2 xRG3
      have s31 := hik kk.size
      replace G := hik (G.out.trans kk)
      replace GW := hik (GW.out.trans kk)
      replace A := hik (rowIs_keep A.out kk)
      replace RW := hik (rowIs_keep RW.out kk)
      replace RG := hik (rowIs_keep RG.out kk)
      replace OP := hik (OP.out.keep kk)
      replace OV := hik (OV.out.keep kk)
      replace OS := hik (OS.out.keep kk)
      replace OG := hik (OG.out.keep kk)
      clear kk
      go_upto_region 43 with fail
      go_cut [23, 24, 25, 26, 27] (fun u0 u1 u2 pp qq W => ∃ (cR cP cV cS : Option Addr) (capR capP capV capS gg : Nat) (Aw : Nat → Option Addr) (Cw : Nat → Nat), u0 = .slice cR nR capR ∧ u1 = .slice cP nR capP ∧ u2 = .slice cV nV capV ∧ pp = .pointer (some ⟨gg, 0, none⟩) ∧ qq = .int .i64 q ∧ Hid (RowsV W cR nR Aw (fun _ => m) Cw (fun i => cA (Gg i)) (fun i => cB (Gg i))) ∧ Hid (PairE W cP nR Rr) ∧ Hid (PairE W cV nV Vv) ∧ Hid (PairV W cS nS f2 g2) ∧ Hid (W.rowIs gg 31 4 (pv4 (.slice cS nS capS) (.int .i64 aa) (.string ss) (.int .i64 cc))) ∧ Hid (Chg nob W31 W) ∧ Hid (W31.heap.size ≤ gg))
      case first =>
        as_aux_lemma =>
          have zA : w.heap.size < W31.heap.size := A.out.lt
          have xA0 : W31.cell? ⟨w.heap.size, 0, none⟩ = some (.slice c2 len2 cap2) := A.out.cell (by omega)
          have xA1 : W31.cell? ⟨w.heap.size, 1, none⟩ = some (.int .i64 at2) := A.out.cell (by omega)
          have xA2 : W31.cell? ⟨w.heap.size, 2, none⟩ = some (.string st2) := A.out.cell (by omega)
          have xA3 : W31.cell? ⟨w.heap.size, 3, none⟩ = some (.int .i64 ct2) := A.out.cell (by omega)
          have KW := hik ((Chg.refl nob W31).drew1)
          have SA := hik (fun (WW : World) (kW : Chg nob W31 WW) => (show (WW.cell? ⟨w.heap.size, 0, none⟩ = some (.slice c2 len2 cap2) ∧ WW.cell? ⟨w.heap.size, 1, none⟩ = some (.int .i64 at2) ∧ WW.cell? ⟨w.heap.size, 2, none⟩ = some (.string st2) ∧ WW.cell? ⟨w.heap.size, 3, none⟩ = some (.int .i64 ct2)) from ⟨kW.see xA0, kW.see xA1, kW.see xA2, kW.see xA3⟩))
          refine wp_region_held_drew (S := fun w' => w'.cell? ⟨w.heap.size, 0, none⟩ = some (.slice c2 len2 cap2) ∧ w'.cell? ⟨w.heap.size, 1, none⟩ = some (.int .i64 at2) ∧ w'.cell? ⟨w.heap.size, 2, none⟩ = some (.string st2) ∧ w'.cell? ⟨w.heap.size, 3, none⟩ = some (.int .i64 ct2)) (by kernel_rfl) ⟨xA0, xA1, xA2, xA3⟩ (fun hHeld => ?_)
          refine wpAnyH_take (i := 0) (v := ?_) rfl (by kernel_rfl) (by kernel_rfl) (by kernel_rfl) (fun _ _ _ h => h) (Or.inl ⟨by rfl, ?_⟩) (by assumption) ?_
          rotate_left 1
          · (intro w' hSw; (try dsimp only at hSw); go_simp; try with_reducible rfl)
          try simp only [Act.put, List.setIfInBounds_toArray, List.set_cons_zero, List.set_cons_succ, List.getElem_toArray, List.getElem_cons_zero, List.getElem_cons_succ]
          refine wpAnyH_take (i := 1) (v := ?_) rfl (by kernel_rfl) (by kernel_rfl) (by kernel_rfl) (fun _ _ _ h => h) (Or.inl ⟨by rfl, ?_⟩) (by assumption) ?_
          rotate_left 1
          · (intro w' hSw; (try dsimp only at hSw); go_simp; try with_reducible rfl)
          try simp only [Act.put, List.setIfInBounds_toArray, List.set_cons_zero, List.set_cons_succ, List.getElem_toArray, List.getElem_cons_zero, List.getElem_cons_succ]
          refine wpAnyH_take (i := 3) (v := ?_) rfl (by kernel_rfl) (by kernel_rfl) (by kernel_rfl) (fun _ _ _ h => h) (Or.inl ⟨by rfl, ?_⟩) (by assumption) ?_
          rotate_left 1
          · (intro w' hSw; (try dsimp only at hSw); go_simp; try with_reducible rfl)
          try simp only [Act.put, List.setIfInBounds_toArray, List.set_cons_zero, List.set_cons_succ, List.getElem_toArray, List.getElem_cons_zero, List.getElem_cons_succ]
          refine wpAnyH_ready (rs := [2, 12]) (by kernel_rfl) (by simp) ?_
          refine AllReadyH.cons rfl (fun K hK => ?_) ?_
          · refine stepL_callN 8 #[.tmp 175] #[22] (by rfl) (by rfl) #[.slice c1 len1 cap1] (by simp only [List.map_toArray, List.map_cons, List.map_nil] <;> rfl) (run_go Tryz.func8 (by kernel_rfl) (by kernel_rfl) _ _) (toSS_any c1 len1 cap1 A1 L1 C1 f1 g1 _ (hik (RowsV.keep HP1.out (G.out.trans KW.out))) HL hn1') ?_
            rintro e V1 ⟨By, he, ry, ty, dy, kk⟩
            generalize hxb : (W31.drew).heap.size = xb at he ry ty
            clear hxb
            have RY := hik ry
            have TY := hik (show ∀ i, i < len1 → _ from fun i hi => (ty i hi).2)
            clear ry ty dy
            refine ⟨_, he, ?_⟩
            replace KW := hik (KW.out.trans kk)
            refine hK.out _ _ (SA.out _ KW.out) (fun hHeld => ?_)
            clear hK K
            try simp only [Act.put, List.setIfInBounds_toArray, List.set_cons_zero, List.set_cons_succ, List.getElem_toArray, List.getElem_cons_zero, List.getElem_cons_succ]
            clear he kk
            refine wpAnyH_ready (rs := [4, 12]) (by kernel_rfl) (by simp) ?_
            refine AllReadyH.cons rfl (fun K hK => ?_) ?_
            · refine stepL_callN 9 #[.tmp 177] #[25] (by rfl) (by rfl) #[.agg #[.slice c2 len2 cap2, .int .i64 at2, .string st2, .int .i64 ct2]] (by simp only [List.map_toArray, List.map_cons, List.map_nil] <;> rfl) (run_go Tryz.func9 (by kernel_rfl) (by kernel_rfl) _ _) (toSource_any c2 len2 cap2 f2 g2 at2 st2 ct2 _ (hik (HP2.out.keep (G.out.trans KW.out))) hn2) ?_
              rintro e V2 ⟨by_, hby, he, hry, kk⟩
              have OY := hik (OwnE.of_row hry (Nat.le_refl by_))
              replace RY := hik (rowIs_keep RY.out kk)
              replace TY := hik (show ∀ i, i < len1 → _ from fun i hi => rowIs_keep (TY.out i hi) kk)
              clear hry hby
              refine ⟨_, he, ?_⟩
              replace KW := hik (KW.out.trans kk)
              refine hK.out _ _ (SA.out _ KW.out) (fun hHeld => ?_)
              clear hK K
              try simp only [Act.put, List.setIfInBounds_toArray, List.set_cons_zero, List.set_cons_succ, List.getElem_toArray, List.getElem_cons_zero, List.getElem_cons_succ]
              clear he kk
              refine wpAnyH_ready (rs := [5, 12]) (by kernel_rfl) (by simp) ?_
              refine AllReadyH.cons rfl (fun K hK => ?_) ?_
              · refine stepL_callN 10 #[.tmp 174, .tmp 176, .tmp 178] #[3, 28, 31] (by rfl) (by rfl) #[.int .i64 a0, .slice (some ⟨xb, 0, none⟩) len1 len1, .agg #[.slice (some ⟨by_, 0, none⟩) len2 len2, .int .i64 at2, .string st2, .int .i64 ct2]] (by simp only [List.map_toArray, List.map_cons, List.map_nil] <;> rfl) (run_go Tryz.func10 (by kernel_rfl) (by kernel_rfl) _ _) (HI.out _ _ _ _ _ (hik (CopiedSS.rows (w := w) RY.out TY.out)) (hik OY.out.pairs) (hik (ht.out.keep (G.out.trans KW.out)))) ?_
                rintro e V3 ⟨cR, capR, Hq, Cq, cP, capP, cV, capV, cS, capS, he, rR', rP, rV, rS, rA, kk⟩
                have rR := OwnSS.toQ rR' HM1.out
                clear rR' rA
                have RR := hik rR
                have RP := hik rP
                have RV := hik rV
                have RS := hik rS
                clear rR rP rV rS RY TY OY
                refine ⟨_, he, ?_⟩
                replace KW := hik (KW.out.trans kk)
                refine hK.out _ _ (SA.out _ KW.out) (fun hHeld => ?_)
                clear hK K
                try simp only [Act.put, List.setIfInBounds_toArray, List.set_cons_zero, List.set_cons_succ, List.getElem_toArray, List.getElem_cons_zero, List.getElem_cons_succ]
                clear he kk
                refine wpAnyH_take (i := 6) (v := ?_) rfl (by kernel_rfl) (by kernel_rfl) (by kernel_rfl) (fun _ _ _ h => h) (Or.inl ⟨by rfl, ?_⟩) (by assumption) ?_
                rotate_left 1
                · (intro w' hSw; (try dsimp only at hSw); go_simp; try with_reducible rfl)
                try simp only [Act.put, List.setIfInBounds_toArray, List.set_cons_zero, List.set_cons_succ, List.getElem_toArray, List.getElem_cons_zero, List.getElem_cons_succ]
                refine wpAnyH_take (i := 7) (v := ?_) rfl (by kernel_rfl) (by kernel_rfl) (by kernel_rfl) (fun _ _ _ h => h) (Or.inl ⟨by rfl, ?_⟩) (by assumption) ?_
                rotate_left 1
                · (intro w' hSw; (try dsimp only at hSw); go_simp; try with_reducible rfl)
                try simp only [Act.put, List.setIfInBounds_toArray, List.set_cons_zero, List.set_cons_succ, List.getElem_toArray, List.getElem_cons_zero, List.getElem_cons_succ]
                refine wpAnyH_take (i := 8) (v := ?_) rfl (by kernel_rfl) (by kernel_rfl) (by kernel_rfl) (fun _ _ _ h => h) (Or.inl ⟨by rfl, ?_⟩) (by assumption) ?_
                rotate_left 1
                · (intro w' hSw; (try dsimp only at hSw); go_simp; try with_reducible rfl)
                try simp only [Act.put, List.setIfInBounds_toArray, List.set_cons_zero, List.set_cons_succ, List.getElem_toArray, List.getElem_cons_zero, List.getElem_cons_succ]
                refine wpAnyH_take (i := 9) (v := ?_) rfl (by kernel_rfl) (by kernel_rfl) (by kernel_rfl) (fun _ _ _ h => h) (Or.inl ⟨by rfl, ?_⟩) (by assumption) ?_
                rotate_left 1
                · (intro w' hSw; (try dsimp only at hSw); go_simp; try with_reducible rfl)
                try simp only [Act.put, List.setIfInBounds_toArray, List.set_cons_zero, List.set_cons_succ, List.getElem_toArray, List.getElem_cons_zero, List.getElem_cons_succ]
                refine wpAnyH_take (i := 10) (v := ?_) rfl (by kernel_rfl) (by kernel_rfl) (by kernel_rfl) (fun _ _ _ h => h) (Or.inl ⟨by rfl, ?_⟩) (by assumption) ?_
                rotate_left 1
                · (intro w' hSw; (try dsimp only at hSw); go_simp; try with_reducible rfl)
                try simp only [Act.put, List.setIfInBounds_toArray, List.set_cons_zero, List.set_cons_succ, List.getElem_toArray, List.getElem_cons_zero, List.getElem_cons_succ]
                refine wpAnyH_take (i := 11) (v := ?_) rfl (by kernel_rfl) (by kernel_rfl) (by kernel_rfl) (fun _ _ _ h => h) (Or.inl ⟨by rfl, ?_⟩) (by assumption) ?_
                rotate_left 1
                · (intro w' hSw; (try dsimp only at hSw); go_simp; try with_reducible rfl)
                try simp only [Act.put, List.setIfInBounds_toArray, List.set_cons_zero, List.set_cons_succ, List.getElem_toArray, List.getElem_cons_zero, List.getElem_cons_succ]
                refine wpAnyH_ready (rs := [12]) (by kernel_rfl) (by simp) ?_
                refine AllReadyH.cons rfl (fun K hK => ?_) AllReadyH.nil
                simp only [List.getElem_toArray, List.getElem_cons_zero, List.getElem_cons_succ]
                go_simp
                obtain ⟨gA, hgA⟩ : ∃ g, g = V3.heap.size := ⟨_, rfl⟩
                have E7 : Hid (World.rowIs (World.alloc V3 (.cells #[.slice none 0 0, .int .i64 0, .string ⟨#[]⟩, .int .i64 0] 31)) V3.heap.size 31 4 (pv4 (.slice none 0 0) (.int .i64 0) (.string ⟨#[]⟩) (.int .i64 0))) := hik (row4_new V3 _ _ _ _ _)
                have lA : W31.heap.size ≤ gA := by rw [hgA]; exact KW.out.size
                replace RR := hik (((RowsQ.lt RR.out HM1.out).mono (R := fun b => b ≠ gA) (fun b hb e => by omega)).keep ((Chg.refl nob _).alloc (.cells #[.slice none 0 0, .int .i64 0, .string ⟨#[]⟩, .int .i64 0] 31)))
                replace RP := hik (RP.out.keep ((Chg.refl nob _).alloc (.cells #[.slice none 0 0, .int .i64 0, .string ⟨#[]⟩, .int .i64 0] 31)))
                replace RV := hik (RV.out.keep ((Chg.refl nob _).alloc (.cells #[.slice none 0 0, .int .i64 0, .string ⟨#[]⟩, .int .i64 0] 31)))
                replace RS := hik (RS.out.keep ((Chg.refl nob _).alloc (.cells #[.slice none 0 0, .int .i64 0, .string ⟨#[]⟩, .int .i64 0] 31)))
                replace KW : Hid (Chg nob W31 (World.alloc V3 (.cells #[.slice none 0 0, .int .i64 0, .string ⟨#[]⟩, .int .i64 0] 31))) := hik (KW.out.alloc _)
                generalize hUA : (World.alloc V3 (.cells #[.slice none 0 0, .int .i64 0, .string ⟨#[]⟩, .int .i64 0] 31)) = UA at E7 KW RR RP RV RS ⊢
                clear hUA
                rw [← hgA] at E7 ⊢
                clear hgA
                refine hK.out _ _ (SA.out _ KW.out) (fun hHeld => ?_)
                clear hK K
                try simp only [Act.put, List.setIfInBounds_toArray, List.set_cons_zero, List.set_cons_succ, List.getElem_toArray, List.getElem_cons_zero, List.getElem_cons_succ]
                refine wpAnyH_take (i := 13) (v := ?_) rfl (by kernel_rfl) (by kernel_rfl) (by kernel_rfl) (fun _ _ _ h => h) (Or.inl ⟨by rfl, ?_⟩) (by assumption) ?_
                rotate_left 1
                · (intro w' hSw; (try dsimp only at hSw); go_simp; try with_reducible rfl)
                try simp only [Act.put, List.setIfInBounds_toArray, List.set_cons_zero, List.set_cons_succ, List.getElem_toArray, List.getElem_cons_zero, List.getElem_cons_succ]
                refine wpAnyH_take (i := 14) (v := ?_) rfl (by kernel_rfl) (by kernel_rfl) (by kernel_rfl) (fun _ _ _ h => h) (Or.inl ⟨by rfl, ?_⟩) (by assumption) ?_
                rotate_left 1
                · (intro w' hSw; (try dsimp only at hSw); go_simp; try with_reducible rfl)
                try simp only [Act.put, List.setIfInBounds_toArray, List.set_cons_zero, List.set_cons_succ, List.getElem_toArray, List.getElem_cons_zero, List.getElem_cons_succ]
                refine wpAnyH_take (i := 15) (v := ?_) rfl (by kernel_rfl) (by kernel_rfl) (by kernel_rfl) (fun _ _ _ h => h) (Or.inl ⟨by rfl, ?_⟩) (by assumption) ?_
                rotate_left 1
                · (intro w' hSw; (try dsimp only at hSw); go_simp; try with_reducible rfl)
                try simp only [Act.put, List.setIfInBounds_toArray, List.set_cons_zero, List.set_cons_succ, List.getElem_toArray, List.getElem_cons_zero, List.getElem_cons_succ]
                refine wpAnyH_ready (rs := [16]) (by kernel_rfl) (by simp) ?_
                refine AllReadyH.cons rfl (fun K hK => ?_) AllReadyH.nil
                have y0 : UA.cell? ⟨gA, 0, none⟩ = some (.slice none 0 0) := E7.out.cell (by omega)
                have v0 := E7.out.frozen 0
                have y1 : UA.cell? ⟨gA, 1, none⟩ = some (.int .i64 0) := E7.out.cell (by omega)
                have v1 := E7.out.frozen 1
                have y2 : UA.cell? ⟨gA, 2, none⟩ = some (.string ⟨#[]⟩) := E7.out.cell (by omega)
                have v2 := E7.out.frozen 2
                have y3 : UA.cell? ⟨gA, 3, none⟩ = some (.int .i64 0) := E7.out.cell (by omega)
                have v3 := E7.out.frozen 3
                have l7 := E7.out.lt
                have C7 := hik (chg4_set (Chg.refl (fun b => b = gA) UA) gA (fun _ => rfl) (.slice cS nS capS) (.int .i64 aa) (.string ss) (.int .i64 cc))
                simp only [List.getElem_toArray, List.getElem_cons_zero, List.getElem_cons_succ]
                go_simp
                replace KW := hik (chg4_set KW.out gA (fun l => absurd l (by omega)) (.slice cS nS capS) (.int .i64 aa) (.string ss) (.int .i64 cc))
                refine hK.out _ _ (SA.out _ KW.out) (fun hHeld => ?_)
                clear hK K
                try simp only [Act.put, List.setIfInBounds_toArray, List.set_cons_zero, List.set_cons_succ, List.getElem_toArray, List.getElem_cons_zero, List.getElem_cons_succ]
                clear y0 y1 y2 y3 v0 v1 v2 v3 l7
                replace RR := hik (RR.out.chg C7.out (fun b hb e => hb e))
                replace RP := hik (RP.out.src4 E7.out C7.out)
                replace RV := hik (RV.out.src4 E7.out C7.out)
                replace RS := hik (RS.out.src4 E7.out C7.out)
                replace E7 := hik (row4_set E7.out (.slice cS nS capS) (.int .i64 aa) (.string ss) (.int .i64 cc))
                clear C7
                generalize hUS : ((((UA.setCell ⟨gA, 0, none⟩ (.slice cS nS capS)).setCell ⟨gA, 1, none⟩ (.int .i64 aa)).setCell ⟨gA, 2, none⟩ (.string ss)).setCell ⟨gA, 3, none⟩ (.int .i64 cc)) = US at E7 KW RR RP RV RS hHeld ⊢
                clear hUS
                refine wpAnyH_take (i := 17) (v := ?_) rfl (by kernel_rfl) (by kernel_rfl) (by kernel_rfl) (fun _ _ _ h => h) (Or.inl ⟨by rfl, ?_⟩) (by assumption) ?_
                rotate_left 1
                · (intro w' hSw; (try dsimp only at hSw); go_simp; try with_reducible rfl)
                try simp only [Act.put, List.setIfInBounds_toArray, List.set_cons_zero, List.set_cons_succ, List.getElem_toArray, List.getElem_cons_zero, List.getElem_cons_succ]
                refine wpAnyH_done (by kernel_rfl) ?_ _
                obtain ⟨Aw, Cw, rv⟩ := RowsE.toV (RowsQ.toE RR.out)
                have RR2 := hik rv
                clear rv RR SA
                go_wp2_with fail
                go_meet
                exact ⟨cR, cP, cV, cS, capR, capP, capV, capS, gA, Aw, Cw, rfl, rfl, rfl, rfl, rfl, RR2, hik (OwnE.pairs RP.out), hik (OwnE.pairs RV.out), hik (OwnE.pairs RS.out), E7, KW, hik lA⟩
              · refine AllReadyH.cons rfl (fun K hK => ?_) AllReadyH.nil
                simp only [List.getElem_toArray, List.getElem_cons_zero, List.getElem_cons_succ]
                go_simp
                obtain ⟨gA, hgA⟩ : ∃ g, g = V2.heap.size := ⟨_, rfl⟩
                have E7 : Hid (World.rowIs (World.alloc V2 (.cells #[.slice none 0 0, .int .i64 0, .string ⟨#[]⟩, .int .i64 0] 31)) V2.heap.size 31 4 (pv4 (.slice none 0 0) (.int .i64 0) (.string ⟨#[]⟩) (.int .i64 0))) := hik (row4_new V2 _ _ _ _ _)
                have lA : W31.heap.size ≤ gA := by rw [hgA]; exact KW.out.size
                replace RY := hik (rowIs_keep RY.out ((Chg.refl nob _).alloc (.cells #[.slice none 0 0, .int .i64 0, .string ⟨#[]⟩, .int .i64 0] 31)))
                replace TY := hik (show ∀ i, i < len1 → _ from fun i hi => rowIs_keep (TY.out i hi) ((Chg.refl nob _).alloc (.cells #[.slice none 0 0, .int .i64 0, .string ⟨#[]⟩, .int .i64 0] 31)))
                replace OY := hik (OY.out.keep ((Chg.refl nob _).alloc (.cells #[.slice none 0 0, .int .i64 0, .string ⟨#[]⟩, .int .i64 0] 31)))
                replace KW : Hid (Chg nob W31 (World.alloc V2 (.cells #[.slice none 0 0, .int .i64 0, .string ⟨#[]⟩, .int .i64 0] 31))) := hik (KW.out.alloc _)
                generalize hUA : (World.alloc V2 (.cells #[.slice none 0 0, .int .i64 0, .string ⟨#[]⟩, .int .i64 0] 31)) = UA at E7 KW RY TY OY ⊢
                clear hUA
                rw [← hgA] at E7 ⊢
                clear hgA
                refine hK.out _ _ (SA.out _ KW.out) (fun hHeld => ?_)
                clear hK K
                try simp only [Act.put, List.setIfInBounds_toArray, List.set_cons_zero, List.set_cons_succ, List.getElem_toArray, List.getElem_cons_zero, List.getElem_cons_succ]
                refine wpAnyH_ready (rs := [5]) (by kernel_rfl) (by simp) ?_
                refine AllReadyH.cons rfl (fun K hK => ?_) AllReadyH.nil
                have lE := E7.out.lt
                refine stepL_callN 10 #[.tmp 174, .tmp 176, .tmp 178] #[3, 28, 31] (by rfl) (by rfl) #[.int .i64 a0, .slice (some ⟨xb, 0, none⟩) len1 len1, .agg #[.slice (some ⟨by_, 0, none⟩) len2 len2, .int .i64 at2, .string st2, .int .i64 ct2]] (by simp only [List.map_toArray, List.map_cons, List.map_nil] <;> rfl) (run_go Tryz.func10 (by kernel_rfl) (by kernel_rfl) _ _) (HI.out _ _ _ _ _ (hik (CopiedSS.rows (w := w) RY.out TY.out)) (hik OY.out.pairs) (hik (ht.out.keep (G.out.trans KW.out)))) ?_
                rintro e V3 ⟨cR, capR, Hq, Cq, cP, capP, cV, capV, cS, capS, he, rR', rP, rV, rS, rA, kk⟩
                have rR := OwnSS.toQ rR' HM1.out
                clear rR' rA
                have RR := hik (rR.mono (R := fun b => b ≠ gA) (fun b hb e => by omega))
                have RP := hik rP
                have RV := hik rV
                have RS := hik rS
                clear rR rP rV rS RY TY OY
                replace E7 := hik (rowIs_keep E7.out kk)
                refine ⟨_, he, ?_⟩
                replace KW := hik (KW.out.trans kk)
                refine hK.out _ _ (SA.out _ KW.out) (fun hHeld => ?_)
                clear hK K
                try simp only [Act.put, List.setIfInBounds_toArray, List.set_cons_zero, List.set_cons_succ, List.getElem_toArray, List.getElem_cons_zero, List.getElem_cons_succ]
                clear he kk
                clear lE
                refine wpAnyH_take (i := 6) (v := ?_) rfl (by kernel_rfl) (by kernel_rfl) (by kernel_rfl) (fun _ _ _ h => h) (Or.inl ⟨by rfl, ?_⟩) (by assumption) ?_
                rotate_left 1
                · (intro w' hSw; (try dsimp only at hSw); go_simp; try with_reducible rfl)
                try simp only [Act.put, List.setIfInBounds_toArray, List.set_cons_zero, List.set_cons_succ, List.getElem_toArray, List.getElem_cons_zero, List.getElem_cons_succ]
                refine wpAnyH_take (i := 7) (v := ?_) rfl (by kernel_rfl) (by kernel_rfl) (by kernel_rfl) (fun _ _ _ h => h) (Or.inl ⟨by rfl, ?_⟩) (by assumption) ?_
                rotate_left 1
                · (intro w' hSw; (try dsimp only at hSw); go_simp; try with_reducible rfl)
                try simp only [Act.put, List.setIfInBounds_toArray, List.set_cons_zero, List.set_cons_succ, List.getElem_toArray, List.getElem_cons_zero, List.getElem_cons_succ]
                refine wpAnyH_take (i := 8) (v := ?_) rfl (by kernel_rfl) (by kernel_rfl) (by kernel_rfl) (fun _ _ _ h => h) (Or.inl ⟨by rfl, ?_⟩) (by assumption) ?_
                rotate_left 1
                · (intro w' hSw; (try dsimp only at hSw); go_simp; try with_reducible rfl)
                try simp only [Act.put, List.setIfInBounds_toArray, List.set_cons_zero, List.set_cons_succ, List.getElem_toArray, List.getElem_cons_zero, List.getElem_cons_succ]
                refine wpAnyH_take (i := 9) (v := ?_) rfl (by kernel_rfl) (by kernel_rfl) (by kernel_rfl) (fun _ _ _ h => h) (Or.inl ⟨by rfl, ?_⟩) (by assumption) ?_
                rotate_left 1
                · (intro w' hSw; (try dsimp only at hSw); go_simp; try with_reducible rfl)
                try simp only [Act.put, List.setIfInBounds_toArray, List.set_cons_zero, List.set_cons_succ, List.getElem_toArray, List.getElem_cons_zero, List.getElem_cons_succ]
                refine wpAnyH_take (i := 10) (v := ?_) rfl (by kernel_rfl) (by kernel_rfl) (by kernel_rfl) (fun _ _ _ h => h) (Or.inl ⟨by rfl, ?_⟩) (by assumption) ?_
                rotate_left 1
                · (intro w' hSw; (try dsimp only at hSw); go_simp; try with_reducible rfl)
                try simp only [Act.put, List.setIfInBounds_toArray, List.set_cons_zero, List.set_cons_succ, List.getElem_toArray, List.getElem_cons_zero, List.getElem_cons_succ]
                refine wpAnyH_take (i := 11) (v := ?_) rfl (by kernel_rfl) (by kernel_rfl) (by kernel_rfl) (fun _ _ _ h => h) (Or.inl ⟨by rfl, ?_⟩) (by assumption) ?_
                rotate_left 1
                · (intro w' hSw; (try dsimp only at hSw); go_simp; try with_reducible rfl)
                try simp only [Act.put, List.setIfInBounds_toArray, List.set_cons_zero, List.set_cons_succ, List.getElem_toArray, List.getElem_cons_zero, List.getElem_cons_succ]
                refine wpAnyH_take (i := 13) (v := ?_) rfl (by kernel_rfl) (by kernel_rfl) (by kernel_rfl) (fun _ _ _ h => h) (Or.inl ⟨by rfl, ?_⟩) (by assumption) ?_
                rotate_left 1
                · (intro w' hSw; (try dsimp only at hSw); go_simp; try with_reducible rfl)
                try simp only [Act.put, List.setIfInBounds_toArray, List.set_cons_zero, List.set_cons_succ, List.getElem_toArray, List.getElem_cons_zero, List.getElem_cons_succ]
                refine wpAnyH_take (i := 14) (v := ?_) rfl (by kernel_rfl) (by kernel_rfl) (by kernel_rfl) (fun _ _ _ h => h) (Or.inl ⟨by rfl, ?_⟩) (by assumption) ?_
                rotate_left 1
                · (intro w' hSw; (try dsimp only at hSw); go_simp; try with_reducible rfl)
                try simp only [Act.put, List.setIfInBounds_toArray, List.set_cons_zero, List.set_cons_succ, List.getElem_toArray, List.getElem_cons_zero, List.getElem_cons_succ]
                refine wpAnyH_take (i := 15) (v := ?_) rfl (by kernel_rfl) (by kernel_rfl) (by kernel_rfl) (fun _ _ _ h => h) (Or.inl ⟨by rfl, ?_⟩) (by assumption) ?_
                rotate_left 1
                · (intro w' hSw; (try dsimp only at hSw); go_simp; try with_reducible rfl)
                try simp only [Act.put, List.setIfInBounds_toArray, List.set_cons_zero, List.set_cons_succ, List.getElem_toArray, List.getElem_cons_zero, List.getElem_cons_succ]
                refine wpAnyH_ready (rs := [16]) (by kernel_rfl) (by simp) ?_
                refine AllReadyH.cons rfl (fun K hK => ?_) AllReadyH.nil
                have y0 : V3.cell? ⟨gA, 0, none⟩ = some (.slice none 0 0) := E7.out.cell (by omega)
                have v0 := E7.out.frozen 0
                have y1 : V3.cell? ⟨gA, 1, none⟩ = some (.int .i64 0) := E7.out.cell (by omega)
                have v1 := E7.out.frozen 1
                have y2 : V3.cell? ⟨gA, 2, none⟩ = some (.string ⟨#[]⟩) := E7.out.cell (by omega)
                have v2 := E7.out.frozen 2
                have y3 : V3.cell? ⟨gA, 3, none⟩ = some (.int .i64 0) := E7.out.cell (by omega)
                have v3 := E7.out.frozen 3
                have l7 := E7.out.lt
                have C7 := hik (chg4_set (Chg.refl (fun b => b = gA) V3) gA (fun _ => rfl) (.slice cS nS capS) (.int .i64 aa) (.string ss) (.int .i64 cc))
                simp only [List.getElem_toArray, List.getElem_cons_zero, List.getElem_cons_succ]
                go_simp
                replace KW := hik (chg4_set KW.out gA (fun l => absurd l (by omega)) (.slice cS nS capS) (.int .i64 aa) (.string ss) (.int .i64 cc))
                refine hK.out _ _ (SA.out _ KW.out) (fun hHeld => ?_)
                clear hK K
                try simp only [Act.put, List.setIfInBounds_toArray, List.set_cons_zero, List.set_cons_succ, List.getElem_toArray, List.getElem_cons_zero, List.getElem_cons_succ]
                clear y0 y1 y2 y3 v0 v1 v2 v3 l7
                replace RR := hik (RR.out.chg C7.out (fun b hb e => hb e))
                replace RP := hik (RP.out.src4 E7.out C7.out)
                replace RV := hik (RV.out.src4 E7.out C7.out)
                replace RS := hik (RS.out.src4 E7.out C7.out)
                replace E7 := hik (row4_set E7.out (.slice cS nS capS) (.int .i64 aa) (.string ss) (.int .i64 cc))
                clear C7
                generalize hUS : ((((V3.setCell ⟨gA, 0, none⟩ (.slice cS nS capS)).setCell ⟨gA, 1, none⟩ (.int .i64 aa)).setCell ⟨gA, 2, none⟩ (.string ss)).setCell ⟨gA, 3, none⟩ (.int .i64 cc)) = US at E7 KW RR RP RV RS hHeld ⊢
                clear hUS
                refine wpAnyH_take (i := 17) (v := ?_) rfl (by kernel_rfl) (by kernel_rfl) (by kernel_rfl) (fun _ _ _ h => h) (Or.inl ⟨by rfl, ?_⟩) (by assumption) ?_
                rotate_left 1
                · (intro w' hSw; (try dsimp only at hSw); go_simp; try with_reducible rfl)
                try simp only [Act.put, List.setIfInBounds_toArray, List.set_cons_zero, List.set_cons_succ, List.getElem_toArray, List.getElem_cons_zero, List.getElem_cons_succ]
                refine wpAnyH_done (by kernel_rfl) ?_ _
                obtain ⟨Aw, Cw, rv⟩ := RowsE.toV (RowsQ.toE RR.out)
                have RR2 := hik rv
                clear rv RR SA
                go_wp2_with fail
                go_meet
                exact ⟨cR, cP, cV, cS, capR, capP, capV, capS, gA, Aw, Cw, rfl, rfl, rfl, rfl, rfl, RR2, hik (OwnE.pairs RP.out), hik (OwnE.pairs RV.out), hik (OwnE.pairs RS.out), E7, KW, hik lA⟩
            · refine AllReadyH.cons rfl (fun K hK => ?_) AllReadyH.nil
              simp only [List.getElem_toArray, List.getElem_cons_zero, List.getElem_cons_succ]
              go_simp
              obtain ⟨gA, hgA⟩ : ∃ g, g = V1.heap.size := ⟨_, rfl⟩
              have E7 : Hid (World.rowIs (World.alloc V1 (.cells #[.slice none 0 0, .int .i64 0, .string ⟨#[]⟩, .int .i64 0] 31)) V1.heap.size 31 4 (pv4 (.slice none 0 0) (.int .i64 0) (.string ⟨#[]⟩) (.int .i64 0))) := hik (row4_new V1 _ _ _ _ _)
              have lA : W31.heap.size ≤ gA := by rw [hgA]; exact KW.out.size
              replace RY := hik (rowIs_keep RY.out ((Chg.refl nob _).alloc (.cells #[.slice none 0 0, .int .i64 0, .string ⟨#[]⟩, .int .i64 0] 31)))
              replace TY := hik (show ∀ i, i < len1 → _ from fun i hi => rowIs_keep (TY.out i hi) ((Chg.refl nob _).alloc (.cells #[.slice none 0 0, .int .i64 0, .string ⟨#[]⟩, .int .i64 0] 31)))
              replace KW : Hid (Chg nob W31 (World.alloc V1 (.cells #[.slice none 0 0, .int .i64 0, .string ⟨#[]⟩, .int .i64 0] 31))) := hik (KW.out.alloc _)
              generalize hUA : (World.alloc V1 (.cells #[.slice none 0 0, .int .i64 0, .string ⟨#[]⟩, .int .i64 0] 31)) = UA at E7 KW RY TY ⊢
              clear hUA
              rw [← hgA] at E7 ⊢
              clear hgA
              refine hK.out _ _ (SA.out _ KW.out) (fun hHeld => ?_)
              clear hK K
              try simp only [Act.put, List.setIfInBounds_toArray, List.set_cons_zero, List.set_cons_succ, List.getElem_toArray, List.getElem_cons_zero, List.getElem_cons_succ]
              refine wpAnyH_ready (rs := [4]) (by kernel_rfl) (by simp) ?_
              refine AllReadyH.cons rfl (fun K hK => ?_) AllReadyH.nil
              refine stepL_callN 9 #[.tmp 177] #[25] (by rfl) (by rfl) #[.agg #[.slice c2 len2 cap2, .int .i64 at2, .string st2, .int .i64 ct2]] (by simp only [List.map_toArray, List.map_cons, List.map_nil] <;> rfl) (run_go Tryz.func9 (by kernel_rfl) (by kernel_rfl) _ _) (toSource_any c2 len2 cap2 f2 g2 at2 st2 ct2 _ (hik (HP2.out.keep (G.out.trans KW.out))) hn2) ?_
              rintro e V2 ⟨by_, hby, he, hry, kk⟩
              have OY := hik (OwnE.of_row hry (Nat.le_refl by_))
              replace RY := hik (rowIs_keep RY.out kk)
              replace TY := hik (show ∀ i, i < len1 → _ from fun i hi => rowIs_keep (TY.out i hi) kk)
              clear hry hby
              replace E7 := hik (rowIs_keep E7.out kk)
              refine ⟨_, he, ?_⟩
              replace KW := hik (KW.out.trans kk)
              refine hK.out _ _ (SA.out _ KW.out) (fun hHeld => ?_)
              clear hK K
              try simp only [Act.put, List.setIfInBounds_toArray, List.set_cons_zero, List.set_cons_succ, List.getElem_toArray, List.getElem_cons_zero, List.getElem_cons_succ]
              clear he kk
              refine wpAnyH_ready (rs := [5]) (by kernel_rfl) (by simp) ?_
              refine AllReadyH.cons rfl (fun K hK => ?_) AllReadyH.nil
              have lE := E7.out.lt
              refine stepL_callN 10 #[.tmp 174, .tmp 176, .tmp 178] #[3, 28, 31] (by rfl) (by rfl) #[.int .i64 a0, .slice (some ⟨xb, 0, none⟩) len1 len1, .agg #[.slice (some ⟨by_, 0, none⟩) len2 len2, .int .i64 at2, .string st2, .int .i64 ct2]] (by simp only [List.map_toArray, List.map_cons, List.map_nil] <;> rfl) (run_go Tryz.func10 (by kernel_rfl) (by kernel_rfl) _ _) (HI.out _ _ _ _ _ (hik (CopiedSS.rows (w := w) RY.out TY.out)) (hik OY.out.pairs) (hik (ht.out.keep (G.out.trans KW.out)))) ?_
              rintro e V3 ⟨cR, capR, Hq, Cq, cP, capP, cV, capV, cS, capS, he, rR', rP, rV, rS, rA, kk⟩
              have rR := OwnSS.toQ rR' HM1.out
              clear rR' rA
              have RR := hik (rR.mono (R := fun b => b ≠ gA) (fun b hb e => by omega))
              have RP := hik rP
              have RV := hik rV
              have RS := hik rS
              clear rR rP rV rS RY TY OY
              replace E7 := hik (rowIs_keep E7.out kk)
              refine ⟨_, he, ?_⟩
              replace KW := hik (KW.out.trans kk)
              refine hK.out _ _ (SA.out _ KW.out) (fun hHeld => ?_)
              clear hK K
              try simp only [Act.put, List.setIfInBounds_toArray, List.set_cons_zero, List.set_cons_succ, List.getElem_toArray, List.getElem_cons_zero, List.getElem_cons_succ]
              clear he kk
              clear lE
              refine wpAnyH_take (i := 6) (v := ?_) rfl (by kernel_rfl) (by kernel_rfl) (by kernel_rfl) (fun _ _ _ h => h) (Or.inl ⟨by rfl, ?_⟩) (by assumption) ?_
              rotate_left 1
              · (intro w' hSw; (try dsimp only at hSw); go_simp; try with_reducible rfl)
              try simp only [Act.put, List.setIfInBounds_toArray, List.set_cons_zero, List.set_cons_succ, List.getElem_toArray, List.getElem_cons_zero, List.getElem_cons_succ]
              refine wpAnyH_take (i := 7) (v := ?_) rfl (by kernel_rfl) (by kernel_rfl) (by kernel_rfl) (fun _ _ _ h => h) (Or.inl ⟨by rfl, ?_⟩) (by assumption) ?_
              rotate_left 1
              · (intro w' hSw; (try dsimp only at hSw); go_simp; try with_reducible rfl)
              try simp only [Act.put, List.setIfInBounds_toArray, List.set_cons_zero, List.set_cons_succ, List.getElem_toArray, List.getElem_cons_zero, List.getElem_cons_succ]
              refine wpAnyH_take (i := 8) (v := ?_) rfl (by kernel_rfl) (by kernel_rfl) (by kernel_rfl) (fun _ _ _ h => h) (Or.inl ⟨by rfl, ?_⟩) (by assumption) ?_
              rotate_left 1
              · (intro w' hSw; (try dsimp only at hSw); go_simp; try with_reducible rfl)
              try simp only [Act.put, List.setIfInBounds_toArray, List.set_cons_zero, List.set_cons_succ, List.getElem_toArray, List.getElem_cons_zero, List.getElem_cons_succ]
              refine wpAnyH_take (i := 9) (v := ?_) rfl (by kernel_rfl) (by kernel_rfl) (by kernel_rfl) (fun _ _ _ h => h) (Or.inl ⟨by rfl, ?_⟩) (by assumption) ?_
              rotate_left 1
              · (intro w' hSw; (try dsimp only at hSw); go_simp; try with_reducible rfl)
              try simp only [Act.put, List.setIfInBounds_toArray, List.set_cons_zero, List.set_cons_succ, List.getElem_toArray, List.getElem_cons_zero, List.getElem_cons_succ]
              refine wpAnyH_take (i := 10) (v := ?_) rfl (by kernel_rfl) (by kernel_rfl) (by kernel_rfl) (fun _ _ _ h => h) (Or.inl ⟨by rfl, ?_⟩) (by assumption) ?_
              rotate_left 1
              · (intro w' hSw; (try dsimp only at hSw); go_simp; try with_reducible rfl)
              try simp only [Act.put, List.setIfInBounds_toArray, List.set_cons_zero, List.set_cons_succ, List.getElem_toArray, List.getElem_cons_zero, List.getElem_cons_succ]
              refine wpAnyH_take (i := 11) (v := ?_) rfl (by kernel_rfl) (by kernel_rfl) (by kernel_rfl) (fun _ _ _ h => h) (Or.inl ⟨by rfl, ?_⟩) (by assumption) ?_
              rotate_left 1
              · (intro w' hSw; (try dsimp only at hSw); go_simp; try with_reducible rfl)
              try simp only [Act.put, List.setIfInBounds_toArray, List.set_cons_zero, List.set_cons_succ, List.getElem_toArray, List.getElem_cons_zero, List.getElem_cons_succ]
              refine wpAnyH_take (i := 13) (v := ?_) rfl (by kernel_rfl) (by kernel_rfl) (by kernel_rfl) (fun _ _ _ h => h) (Or.inl ⟨by rfl, ?_⟩) (by assumption) ?_
              rotate_left 1
              · (intro w' hSw; (try dsimp only at hSw); go_simp; try with_reducible rfl)
              try simp only [Act.put, List.setIfInBounds_toArray, List.set_cons_zero, List.set_cons_succ, List.getElem_toArray, List.getElem_cons_zero, List.getElem_cons_succ]
              refine wpAnyH_take (i := 14) (v := ?_) rfl (by kernel_rfl) (by kernel_rfl) (by kernel_rfl) (fun _ _ _ h => h) (Or.inl ⟨by rfl, ?_⟩) (by assumption) ?_
              rotate_left 1
              · (intro w' hSw; (try dsimp only at hSw); go_simp; try with_reducible rfl)
              try simp only [Act.put, List.setIfInBounds_toArray, List.set_cons_zero, List.set_cons_succ, List.getElem_toArray, List.getElem_cons_zero, List.getElem_cons_succ]
              refine wpAnyH_take (i := 15) (v := ?_) rfl (by kernel_rfl) (by kernel_rfl) (by kernel_rfl) (fun _ _ _ h => h) (Or.inl ⟨by rfl, ?_⟩) (by assumption) ?_
              rotate_left 1
              · (intro w' hSw; (try dsimp only at hSw); go_simp; try with_reducible rfl)
              try simp only [Act.put, List.setIfInBounds_toArray, List.set_cons_zero, List.set_cons_succ, List.getElem_toArray, List.getElem_cons_zero, List.getElem_cons_succ]
              refine wpAnyH_ready (rs := [16]) (by kernel_rfl) (by simp) ?_
              refine AllReadyH.cons rfl (fun K hK => ?_) AllReadyH.nil
              have y0 : V3.cell? ⟨gA, 0, none⟩ = some (.slice none 0 0) := E7.out.cell (by omega)
              have v0 := E7.out.frozen 0
              have y1 : V3.cell? ⟨gA, 1, none⟩ = some (.int .i64 0) := E7.out.cell (by omega)
              have v1 := E7.out.frozen 1
              have y2 : V3.cell? ⟨gA, 2, none⟩ = some (.string ⟨#[]⟩) := E7.out.cell (by omega)
              have v2 := E7.out.frozen 2
              have y3 : V3.cell? ⟨gA, 3, none⟩ = some (.int .i64 0) := E7.out.cell (by omega)
              have v3 := E7.out.frozen 3
              have l7 := E7.out.lt
              have C7 := hik (chg4_set (Chg.refl (fun b => b = gA) V3) gA (fun _ => rfl) (.slice cS nS capS) (.int .i64 aa) (.string ss) (.int .i64 cc))
              simp only [List.getElem_toArray, List.getElem_cons_zero, List.getElem_cons_succ]
              go_simp
              replace KW := hik (chg4_set KW.out gA (fun l => absurd l (by omega)) (.slice cS nS capS) (.int .i64 aa) (.string ss) (.int .i64 cc))
              refine hK.out _ _ (SA.out _ KW.out) (fun hHeld => ?_)
              clear hK K
              try simp only [Act.put, List.setIfInBounds_toArray, List.set_cons_zero, List.set_cons_succ, List.getElem_toArray, List.getElem_cons_zero, List.getElem_cons_succ]
              clear y0 y1 y2 y3 v0 v1 v2 v3 l7
              replace RR := hik (RR.out.chg C7.out (fun b hb e => hb e))
              replace RP := hik (RP.out.src4 E7.out C7.out)
              replace RV := hik (RV.out.src4 E7.out C7.out)
              replace RS := hik (RS.out.src4 E7.out C7.out)
              replace E7 := hik (row4_set E7.out (.slice cS nS capS) (.int .i64 aa) (.string ss) (.int .i64 cc))
              clear C7
              generalize hUS : ((((V3.setCell ⟨gA, 0, none⟩ (.slice cS nS capS)).setCell ⟨gA, 1, none⟩ (.int .i64 aa)).setCell ⟨gA, 2, none⟩ (.string ss)).setCell ⟨gA, 3, none⟩ (.int .i64 cc)) = US at E7 KW RR RP RV RS hHeld ⊢
              clear hUS
              refine wpAnyH_take (i := 17) (v := ?_) rfl (by kernel_rfl) (by kernel_rfl) (by kernel_rfl) (fun _ _ _ h => h) (Or.inl ⟨by rfl, ?_⟩) (by assumption) ?_
              rotate_left 1
              · (intro w' hSw; (try dsimp only at hSw); go_simp; try with_reducible rfl)
              try simp only [Act.put, List.setIfInBounds_toArray, List.set_cons_zero, List.set_cons_succ, List.getElem_toArray, List.getElem_cons_zero, List.getElem_cons_succ]
              refine wpAnyH_done (by kernel_rfl) ?_ _
              obtain ⟨Aw, Cw, rv⟩ := RowsE.toV (RowsQ.toE RR.out)
              have RR2 := hik rv
              clear rv RR SA
              go_wp2_with fail
              go_meet
              exact ⟨cR, cP, cV, cS, capR, capP, capV, capS, gA, Aw, Cw, rfl, rfl, rfl, rfl, rfl, RR2, hik (OwnE.pairs RP.out), hik (OwnE.pairs RV.out), hik (OwnE.pairs RS.out), E7, KW, hik lA⟩
          · refine AllReadyH.cons rfl (fun K hK => ?_) AllReadyH.nil
            simp only [List.getElem_toArray, List.getElem_cons_zero, List.getElem_cons_succ]
            go_simp
            obtain ⟨gA, hgA⟩ : ∃ g, g = W31.heap.size := ⟨_, rfl⟩
            have E7 : Hid (World.rowIs (World.alloc W31 (.cells #[.slice none 0 0, .int .i64 0, .string ⟨#[]⟩, .int .i64 0] 31)).drew W31.heap.size 31 4 (pv4 (.slice none 0 0) (.int .i64 0) (.string ⟨#[]⟩) (.int .i64 0))) := hik (rowIs_keep (row4_new W31 _ _ _ _ _) (Chg.refl nob _).drew1)
            have lA : W31.heap.size ≤ gA := by rw [hgA]; exact Nat.le_refl _
            replace KW : Hid (Chg nob W31 (World.alloc W31 (.cells #[.slice none 0 0, .int .i64 0, .string ⟨#[]⟩, .int .i64 0] 31)).drew) := hik (((Chg.refl nob W31).alloc _).drew1)
            generalize hUA : (World.alloc W31 (.cells #[.slice none 0 0, .int .i64 0, .string ⟨#[]⟩, .int .i64 0] 31)).drew = UA at E7 KW ⊢
            clear hUA
            rw [← hgA] at E7 ⊢
            clear hgA
            refine hK.out _ _ (SA.out _ KW.out) (fun hHeld => ?_)
            clear hK K
            try simp only [Act.put, List.setIfInBounds_toArray, List.set_cons_zero, List.set_cons_succ, List.getElem_toArray, List.getElem_cons_zero, List.getElem_cons_succ]
            refine wpAnyH_ready (rs := [2]) (by kernel_rfl) (by simp) ?_
            refine AllReadyH.cons rfl (fun K hK => ?_) AllReadyH.nil
            refine stepL_callN 8 #[.tmp 175] #[22] (by rfl) (by rfl) #[.slice c1 len1 cap1] (by simp only [List.map_toArray, List.map_cons, List.map_nil] <;> rfl) (run_go Tryz.func8 (by kernel_rfl) (by kernel_rfl) _ _) (toSS_any c1 len1 cap1 A1 L1 C1 f1 g1 _ (hik (RowsV.keep HP1.out (G.out.trans KW.out))) HL hn1') ?_
            rintro e V1 ⟨By, he, ry, ty, dy, kk⟩
            generalize hxb : (UA).heap.size = xb at he ry ty
            clear hxb
            have RY := hik ry
            have TY := hik (show ∀ i, i < len1 → _ from fun i hi => (ty i hi).2)
            clear ry ty dy
            replace E7 := hik (rowIs_keep E7.out kk)
            refine ⟨_, he, ?_⟩
            replace KW := hik (KW.out.trans kk)
            refine hK.out _ _ (SA.out _ KW.out) (fun hHeld => ?_)
            clear hK K
            try simp only [Act.put, List.setIfInBounds_toArray, List.set_cons_zero, List.set_cons_succ, List.getElem_toArray, List.getElem_cons_zero, List.getElem_cons_succ]
            clear he kk
            refine wpAnyH_ready (rs := [4]) (by kernel_rfl) (by simp) ?_
            refine AllReadyH.cons rfl (fun K hK => ?_) AllReadyH.nil
            refine stepL_callN 9 #[.tmp 177] #[25] (by rfl) (by rfl) #[.agg #[.slice c2 len2 cap2, .int .i64 at2, .string st2, .int .i64 ct2]] (by simp only [List.map_toArray, List.map_cons, List.map_nil] <;> rfl) (run_go Tryz.func9 (by kernel_rfl) (by kernel_rfl) _ _) (toSource_any c2 len2 cap2 f2 g2 at2 st2 ct2 _ (hik (HP2.out.keep (G.out.trans KW.out))) hn2) ?_
            rintro e V2 ⟨by_, hby, he, hry, kk⟩
            have OY := hik (OwnE.of_row hry (Nat.le_refl by_))
            replace RY := hik (rowIs_keep RY.out kk)
            replace TY := hik (show ∀ i, i < len1 → _ from fun i hi => rowIs_keep (TY.out i hi) kk)
            clear hry hby
            replace E7 := hik (rowIs_keep E7.out kk)
            refine ⟨_, he, ?_⟩
            replace KW := hik (KW.out.trans kk)
            refine hK.out _ _ (SA.out _ KW.out) (fun hHeld => ?_)
            clear hK K
            try simp only [Act.put, List.setIfInBounds_toArray, List.set_cons_zero, List.set_cons_succ, List.getElem_toArray, List.getElem_cons_zero, List.getElem_cons_succ]
            clear he kk
            refine wpAnyH_ready (rs := [5]) (by kernel_rfl) (by simp) ?_
            refine AllReadyH.cons rfl (fun K hK => ?_) AllReadyH.nil
            have lE := E7.out.lt
            refine stepL_callN 10 #[.tmp 174, .tmp 176, .tmp 178] #[3, 28, 31] (by rfl) (by rfl) #[.int .i64 a0, .slice (some ⟨xb, 0, none⟩) len1 len1, .agg #[.slice (some ⟨by_, 0, none⟩) len2 len2, .int .i64 at2, .string st2, .int .i64 ct2]] (by simp only [List.map_toArray, List.map_cons, List.map_nil] <;> rfl) (run_go Tryz.func10 (by kernel_rfl) (by kernel_rfl) _ _) (HI.out _ _ _ _ _ (hik (CopiedSS.rows (w := w) RY.out TY.out)) (hik OY.out.pairs) (hik (ht.out.keep (G.out.trans KW.out)))) ?_
            rintro e V3 ⟨cR, capR, Hq, Cq, cP, capP, cV, capV, cS, capS, he, rR', rP, rV, rS, rA, kk⟩
            have rR := OwnSS.toQ rR' HM1.out
            clear rR' rA
            have RR := hik (rR.mono (R := fun b => b ≠ gA) (fun b hb e => by omega))
            have RP := hik rP
            have RV := hik rV
            have RS := hik rS
            clear rR rP rV rS RY TY OY
            replace E7 := hik (rowIs_keep E7.out kk)
            refine ⟨_, he, ?_⟩
            replace KW := hik (KW.out.trans kk)
            refine hK.out _ _ (SA.out _ KW.out) (fun hHeld => ?_)
            clear hK K
            try simp only [Act.put, List.setIfInBounds_toArray, List.set_cons_zero, List.set_cons_succ, List.getElem_toArray, List.getElem_cons_zero, List.getElem_cons_succ]
            clear he kk
            clear lE
            refine wpAnyH_take (i := 6) (v := ?_) rfl (by kernel_rfl) (by kernel_rfl) (by kernel_rfl) (fun _ _ _ h => h) (Or.inl ⟨by rfl, ?_⟩) (by assumption) ?_
            rotate_left 1
            · (intro w' hSw; (try dsimp only at hSw); go_simp; try with_reducible rfl)
            try simp only [Act.put, List.setIfInBounds_toArray, List.set_cons_zero, List.set_cons_succ, List.getElem_toArray, List.getElem_cons_zero, List.getElem_cons_succ]
            refine wpAnyH_take (i := 7) (v := ?_) rfl (by kernel_rfl) (by kernel_rfl) (by kernel_rfl) (fun _ _ _ h => h) (Or.inl ⟨by rfl, ?_⟩) (by assumption) ?_
            rotate_left 1
            · (intro w' hSw; (try dsimp only at hSw); go_simp; try with_reducible rfl)
            try simp only [Act.put, List.setIfInBounds_toArray, List.set_cons_zero, List.set_cons_succ, List.getElem_toArray, List.getElem_cons_zero, List.getElem_cons_succ]
            refine wpAnyH_take (i := 8) (v := ?_) rfl (by kernel_rfl) (by kernel_rfl) (by kernel_rfl) (fun _ _ _ h => h) (Or.inl ⟨by rfl, ?_⟩) (by assumption) ?_
            rotate_left 1
            · (intro w' hSw; (try dsimp only at hSw); go_simp; try with_reducible rfl)
            try simp only [Act.put, List.setIfInBounds_toArray, List.set_cons_zero, List.set_cons_succ, List.getElem_toArray, List.getElem_cons_zero, List.getElem_cons_succ]
            refine wpAnyH_take (i := 9) (v := ?_) rfl (by kernel_rfl) (by kernel_rfl) (by kernel_rfl) (fun _ _ _ h => h) (Or.inl ⟨by rfl, ?_⟩) (by assumption) ?_
            rotate_left 1
            · (intro w' hSw; (try dsimp only at hSw); go_simp; try with_reducible rfl)
            try simp only [Act.put, List.setIfInBounds_toArray, List.set_cons_zero, List.set_cons_succ, List.getElem_toArray, List.getElem_cons_zero, List.getElem_cons_succ]
            refine wpAnyH_take (i := 10) (v := ?_) rfl (by kernel_rfl) (by kernel_rfl) (by kernel_rfl) (fun _ _ _ h => h) (Or.inl ⟨by rfl, ?_⟩) (by assumption) ?_
            rotate_left 1
            · (intro w' hSw; (try dsimp only at hSw); go_simp; try with_reducible rfl)
            try simp only [Act.put, List.setIfInBounds_toArray, List.set_cons_zero, List.set_cons_succ, List.getElem_toArray, List.getElem_cons_zero, List.getElem_cons_succ]
            refine wpAnyH_take (i := 11) (v := ?_) rfl (by kernel_rfl) (by kernel_rfl) (by kernel_rfl) (fun _ _ _ h => h) (Or.inl ⟨by rfl, ?_⟩) (by assumption) ?_
            rotate_left 1
            · (intro w' hSw; (try dsimp only at hSw); go_simp; try with_reducible rfl)
            try simp only [Act.put, List.setIfInBounds_toArray, List.set_cons_zero, List.set_cons_succ, List.getElem_toArray, List.getElem_cons_zero, List.getElem_cons_succ]
            refine wpAnyH_take (i := 13) (v := ?_) rfl (by kernel_rfl) (by kernel_rfl) (by kernel_rfl) (fun _ _ _ h => h) (Or.inl ⟨by rfl, ?_⟩) (by assumption) ?_
            rotate_left 1
            · (intro w' hSw; (try dsimp only at hSw); go_simp; try with_reducible rfl)
            try simp only [Act.put, List.setIfInBounds_toArray, List.set_cons_zero, List.set_cons_succ, List.getElem_toArray, List.getElem_cons_zero, List.getElem_cons_succ]
            refine wpAnyH_take (i := 14) (v := ?_) rfl (by kernel_rfl) (by kernel_rfl) (by kernel_rfl) (fun _ _ _ h => h) (Or.inl ⟨by rfl, ?_⟩) (by assumption) ?_
            rotate_left 1
            · (intro w' hSw; (try dsimp only at hSw); go_simp; try with_reducible rfl)
            try simp only [Act.put, List.setIfInBounds_toArray, List.set_cons_zero, List.set_cons_succ, List.getElem_toArray, List.getElem_cons_zero, List.getElem_cons_succ]
            refine wpAnyH_take (i := 15) (v := ?_) rfl (by kernel_rfl) (by kernel_rfl) (by kernel_rfl) (fun _ _ _ h => h) (Or.inl ⟨by rfl, ?_⟩) (by assumption) ?_
            rotate_left 1
            · (intro w' hSw; (try dsimp only at hSw); go_simp; try with_reducible rfl)
            try simp only [Act.put, List.setIfInBounds_toArray, List.set_cons_zero, List.set_cons_succ, List.getElem_toArray, List.getElem_cons_zero, List.getElem_cons_succ]
            refine wpAnyH_ready (rs := [16]) (by kernel_rfl) (by simp) ?_
            refine AllReadyH.cons rfl (fun K hK => ?_) AllReadyH.nil
            have y0 : V3.cell? ⟨gA, 0, none⟩ = some (.slice none 0 0) := E7.out.cell (by omega)
            have v0 := E7.out.frozen 0
            have y1 : V3.cell? ⟨gA, 1, none⟩ = some (.int .i64 0) := E7.out.cell (by omega)
            have v1 := E7.out.frozen 1
            have y2 : V3.cell? ⟨gA, 2, none⟩ = some (.string ⟨#[]⟩) := E7.out.cell (by omega)
            have v2 := E7.out.frozen 2
            have y3 : V3.cell? ⟨gA, 3, none⟩ = some (.int .i64 0) := E7.out.cell (by omega)
            have v3 := E7.out.frozen 3
            have l7 := E7.out.lt
            have C7 := hik (chg4_set (Chg.refl (fun b => b = gA) V3) gA (fun _ => rfl) (.slice cS nS capS) (.int .i64 aa) (.string ss) (.int .i64 cc))
            simp only [List.getElem_toArray, List.getElem_cons_zero, List.getElem_cons_succ]
            go_simp
            replace KW := hik (chg4_set KW.out gA (fun l => absurd l (by omega)) (.slice cS nS capS) (.int .i64 aa) (.string ss) (.int .i64 cc))
            refine hK.out _ _ (SA.out _ KW.out) (fun hHeld => ?_)
            clear hK K
            try simp only [Act.put, List.setIfInBounds_toArray, List.set_cons_zero, List.set_cons_succ, List.getElem_toArray, List.getElem_cons_zero, List.getElem_cons_succ]
            clear y0 y1 y2 y3 v0 v1 v2 v3 l7
            replace RR := hik (RR.out.chg C7.out (fun b hb e => hb e))
            replace RP := hik (RP.out.src4 E7.out C7.out)
            replace RV := hik (RV.out.src4 E7.out C7.out)
            replace RS := hik (RS.out.src4 E7.out C7.out)
            replace E7 := hik (row4_set E7.out (.slice cS nS capS) (.int .i64 aa) (.string ss) (.int .i64 cc))
            clear C7
            generalize hUS : ((((V3.setCell ⟨gA, 0, none⟩ (.slice cS nS capS)).setCell ⟨gA, 1, none⟩ (.int .i64 aa)).setCell ⟨gA, 2, none⟩ (.string ss)).setCell ⟨gA, 3, none⟩ (.int .i64 cc)) = US at E7 KW RR RP RV RS hHeld ⊢
            clear hUS
            refine wpAnyH_take (i := 17) (v := ?_) rfl (by kernel_rfl) (by kernel_rfl) (by kernel_rfl) (fun _ _ _ h => h) (Or.inl ⟨by rfl, ?_⟩) (by assumption) ?_
            rotate_left 1
            · (intro w' hSw; (try dsimp only at hSw); go_simp; try with_reducible rfl)
            try simp only [Act.put, List.setIfInBounds_toArray, List.set_cons_zero, List.set_cons_succ, List.getElem_toArray, List.getElem_cons_zero, List.getElem_cons_succ]
            refine wpAnyH_done (by kernel_rfl) ?_ _
            obtain ⟨Aw, Cw, rv⟩ := RowsE.toV (RowsQ.toE RR.out)
            have RR2 := hik rv
            clear rv RR SA
            go_wp2_with fail
            go_meet
            exact ⟨cR, cP, cV, cS, capR, capP, capV, capS, gA, Aw, Cw, rfl, rfl, rfl, rfl, rfl, RR2, hik (OwnE.pairs RP.out), hik (OwnE.pairs RV.out), hik (OwnE.pairs RS.out), E7, KW, hik lA⟩
      case rest =>
        as_aux_lemma =>
          obtain ⟨hR, hP, hV, hS, hRc, hPc, hVc, hSc, gh, Ah, Ch, rfl, rfl, rfl, rfl, rfl, VH, PH, UH, SH, RH, KW, LH⟩ := hcut
          rename World => W32
          have s32 := hik KW.out.size
          replace G := hik (G.out.trans KW.out)
          replace GW := hik (GW.out.trans KW.out)
          replace A := hik (rowIs_keep A.out KW.out)
          replace RW := hik (rowIs_keep RW.out KW.out)
          replace RG := hik (rowIs_keep RG.out KW.out)
          replace OP := hik (OP.out.keep KW.out)
          replace OV := hik (OV.out.keep KW.out)
          replace OS := hik (OS.out.keep KW.out)
          replace OG := hik (OG.out.keep KW.out)
          have GH := hik (Chg.refl nob W32)
          clear KW
          go_wp2_with fail
          refine (eqSS_any hR cR nR hRc capR _ _ (fun _ => m) _ _ _ _ _ _ _ (hik (RowsV.keep VH.out GH.out)) (hik (RowsV.keep VW.out GW.out)) (fun _ _ _ _ => ⟨rfl, rfl⟩) HLM (by have := BD.out; omega)).mono ?_
          rintro e W33 ⟨rfl, kk⟩
          have s33 := hik kk.size
          replace G := hik (G.out.trans kk)
          replace GW := hik (GW.out.trans kk)
          replace GH := hik (GH.out.trans kk)
          replace A := hik (rowIs_keep A.out kk)
          replace RW := hik (rowIs_keep RW.out kk)
          replace RG := hik (rowIs_keep RG.out kk)
          replace RH := hik (rowIs_keep RH.out kk)
          replace OP := hik (OP.out.keep kk)
          replace OV := hik (OV.out.keep kk)
          replace OS := hik (OS.out.keep kk)
          replace OG := hik (OG.out.keep kk)
          clear kk
          go_wp2_with fail
          refine (eqExtS_any hP cP nR nR hPc capP _ _ _ _ _ (hik (PairE.keep PH.out GH.out)) (hik (PairE.keep PW.out GW.out)) rfl (fun _ _ => ⟨rfl, rfl⟩) (by have := BD.out; omega)).mono ?_
          rintro e W34 ⟨rfl, kk⟩
          have s34 := hik kk.size
          replace G := hik (G.out.trans kk)
          replace GW := hik (GW.out.trans kk)
          replace GH := hik (GH.out.trans kk)
          replace A := hik (rowIs_keep A.out kk)
          replace RW := hik (rowIs_keep RW.out kk)
          replace RG := hik (rowIs_keep RG.out kk)
          replace RH := hik (rowIs_keep RH.out kk)
          replace OP := hik (OP.out.keep kk)
          replace OV := hik (OV.out.keep kk)
          replace OS := hik (OS.out.keep kk)
          replace OG := hik (OG.out.keep kk)
          clear kk
          go_wp2_with fail
          refine (eqExtS_any hV cV nV nV hVc capV _ _ _ _ _ (hik (PairE.keep UH.out GH.out)) (hik (PairE.keep UW.out GW.out)) rfl (fun _ _ => ⟨rfl, rfl⟩) (by have := BD.out; omega)).mono ?_
          rintro e W35 ⟨rfl, kk⟩
          have s35 := hik kk.size
          replace G := hik (G.out.trans kk)
          replace GW := hik (GW.out.trans kk)
          replace GH := hik (GH.out.trans kk)
          replace A := hik (rowIs_keep A.out kk)
          replace RW := hik (rowIs_keep RW.out kk)
          replace RG := hik (rowIs_keep RG.out kk)
          replace RH := hik (rowIs_keep RH.out kk)
          replace OP := hik (OP.out.keep kk)
          replace OV := hik (OV.out.keep kk)
          replace OS := hik (OS.out.keep kk)
          replace OG := hik (OG.out.keep kk)
          clear kk
          have zRH : gh < W35.heap.size := RH.out.lt
          have xRH0 : W35.cell? ⟨gh, 0, none⟩ = some (.slice hS nS hSc) := RH.out.cell (by omega)
          have xRH1 : W35.cell? ⟨gh, 1, none⟩ = some (.int .i64 aa) := RH.out.cell (by omega)
          have xRH2 : W35.cell? ⟨gh, 2, none⟩ = some (.string ss) := RH.out.cell (by omega)
          have xRH3 : W35.cell? ⟨gh, 3, none⟩ = some (.int .i64 cc) := RH.out.cell (by omega)
          have zRW : gw < W35.heap.size := RW.out.lt
          have xRW0 : W35.cell? ⟨gw, 0, none⟩ = some (.slice cS nS capS) := RW.out.cell (by omega)
          have xRW1 : W35.cell? ⟨gw, 1, none⟩ = some (.int .i64 aa) := RW.out.cell (by omega)
          have xRW2 : W35.cell? ⟨gw, 2, none⟩ = some (.string ss) := RW.out.cell (by omega)
          have xRW3 : W35.cell? ⟨gw, 3, none⟩ = some (.int .i64 cc) := RW.out.cell (by omega)
          go_wp2_with fail
          refine (eqSource_any hS cS nS nS hSc capS f2 g2 f2 g2 aa ss cc _ (hik (SH.out.keep GH.out)) (hik (SW.out.keep GW.out)) rfl (fun _ _ => ⟨rfl, rfl⟩) (by have := BD.out; omega)).mono ?_
          rintro e W36 ⟨rfl, kk⟩
          clear zRH xRH0 xRH1 xRH2 xRH3 zRW xRW0 xRW1 xRW2 xRW3
          have s36 := hik kk.size
          replace G := hik (G.out.trans kk)
          replace GW := hik (GW.out.trans kk)
          replace GH := hik (GH.out.trans kk)
          replace A := hik (rowIs_keep A.out kk)
          replace RW := hik (rowIs_keep RW.out kk)
          replace RG := hik (rowIs_keep RG.out kk)
          replace RH := hik (rowIs_keep RH.out kk)
          replace OP := hik (OP.out.keep kk)
          replace OV := hik (OV.out.keep kk)
          replace OS := hik (OS.out.keep kk)
          replace OG := hik (OG.out.keep kk)
          clear kk
          go_wp2_with fail
          refine (heldOS_own gR nR gc m _ Cg 1 _ (hik OG.out.rows) (by have := BD.out; omega) (by have := BD.out; omega) (by omega) (by omega)).mono ?_
          rintro e W37 ⟨he, kk⟩
          have s37 := hik kk.size
          replace G := hik (G.out.trans kk)
          replace GW := hik (GW.out.trans kk)
          replace GH := hik (GH.out.trans kk)
          replace A := hik (rowIs_keep A.out kk)
          replace RW := hik (rowIs_keep RW.out kk)
          replace RG := hik (rowIs_keep RG.out kk)
          replace RH := hik (rowIs_keep RH.out kk)
          replace OP := hik (OP.out.keep kk)
          replace OV := hik (OV.out.keep kk)
          replace OS := hik (OS.out.keep kk)
          replace OG := hik (OG.out.keep kk)
          rw [← HPM.out] at he
          subst he
          clear kk
          go_wp2_with fail
          refine (heldExtS_own gP nR gpc (1 + 2 * (p : Int)) _ (hik OP.out.pairs) (by have := BD.out; omega) (by omega) (by omega)).mono ?_
          rintro e W38 ⟨rfl, kk⟩
          have s38 := hik kk.size
          replace G := hik (G.out.trans kk)
          replace GW := hik (GW.out.trans kk)
          replace GH := hik (GH.out.trans kk)
          replace A := hik (rowIs_keep A.out kk)
          replace RW := hik (rowIs_keep RW.out kk)
          replace RG := hik (rowIs_keep RG.out kk)
          replace RH := hik (rowIs_keep RH.out kk)
          replace OP := hik (OP.out.keep kk)
          replace OV := hik (OV.out.keep kk)
          replace OS := hik (OS.out.keep kk)
          replace OG := hik (OG.out.keep kk)
          clear kk
          go_wp2_with fail
          refine (heldExtS_own gV nV gvc (1 + 2 * (p : Int) + 2 * (nR : Int)) _ (hik OV.out.pairs) (by have := BD.out; omega) (by have := BD.out; omega) (by have := BD.out; omega)).mono ?_
          rintro e W39 ⟨rfl, kk⟩
          have s39 := hik kk.size
          replace G := hik (G.out.trans kk)
          replace GW := hik (GW.out.trans kk)
          replace GH := hik (GH.out.trans kk)
          replace A := hik (rowIs_keep A.out kk)
          replace RW := hik (rowIs_keep RW.out kk)
          replace RG := hik (rowIs_keep RG.out kk)
          replace RH := hik (rowIs_keep RH.out kk)
          replace OP := hik (OP.out.keep kk)
          replace OV := hik (OV.out.keep kk)
          replace OS := hik (OS.out.keep kk)
          replace OG := hik (OG.out.keep kk)
          clear kk
          have zRG : W8.heap.size < W39.heap.size := RG.out.lt
          have xRG0 : W39.cell? ⟨W8.heap.size, 0, none⟩ = some (.slice gS nS gsc) := RG.out.cell (by omega)
          have xRG1 : W39.cell? ⟨W8.heap.size, 1, none⟩ = some (.int .i64 aa) := RG.out.cell (by omega)
          have xRG2 : W39.cell? ⟨W8.heap.size, 2, none⟩ = some (.string ss) := RG.out.cell (by omega)
          have xRG3 : W39.cell? ⟨W8.heap.size, 3, none⟩ = some (.int .i64 cc) := RG.out.cell (by omega)
          go_wp2_with fail
          refine (heldSource_own gS nS gsc aa ss cc (1 + 2 * (p : Int) + 2 * (nR : Int) + 2 * (nV : Int)) _ (hik OS.out.pairs) (by have := BD.out; omega) (by have := BD.out; omega) (by have := BD.out; omega)).mono ?_
          rintro e W40 ⟨rfl, kk⟩
          clear zRG xRG0 xRG1 xRG2 xRG3
          have s40 := hik kk.size
          replace G := hik (G.out.trans kk)
          replace GW := hik (GW.out.trans kk)
          replace GH := hik (GH.out.trans kk)
          replace A := hik (rowIs_keep A.out kk)
          replace RW := hik (rowIs_keep RW.out kk)
          replace RG := hik (rowIs_keep RG.out kk)
          replace RH := hik (rowIs_keep RH.out kk)
          replace OP := hik (OP.out.keep kk)
          replace OV := hik (OV.out.keep kk)
          replace OS := hik (OS.out.keep kk)
          replace OG := hik (OG.out.keep kk)
          clear kk
          go_wp2
          go_ret
          exact ⟨rfl, G.out.belowAll⟩

end Go.Proofs.YtgiefpipflcbgaqGreatDoor
