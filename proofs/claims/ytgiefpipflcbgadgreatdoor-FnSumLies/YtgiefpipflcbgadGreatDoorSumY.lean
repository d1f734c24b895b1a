/- What the model's check of a proof of a sum answers: a contract. Conditions: rounds of right elements that can be read, a right source with draws left. -/
import Derived.Test.YtgiefpipflcbgadGreatDoorBzao
import Derived.Test.YtgiefpipflcbgadGreatDoorBzay
namespace Go.Proofs.YtgiefpipflcbgadGreatDoor
open Go.ChangeShapes Go.WideShapes Go.ChangeAt Go.RowKit
set_option linter.unusedVariables false
set_option maxRecDepth 100000
set_option linter.unusedSimpArgs false

/-- Lists of right elements, each of its own length. -/
def RowsL (w : World) (c : Option Addr) (n : Nat) (L : Nat → Nat) (U : Nat → Nat → El) : Prop :=
  ∀ i, i < n → ∃ (xb xo : Nat) (A : Option Addr) (C : Nat), c = some ⟨xb, xo, none⟩ ∧ xb < w.heap.size ∧ w.cell? ⟨xb, xo + i, none⟩ = some (.slice A (L i) C) ∧ PairE w A (L i) (U i)
theorem RowsL.keep {w w' : World} {c : Option Addr} {n : Nat} {L : Nat → Nat} {U : Nat → Nat → El} (h : RowsL w c n L U) (k : Chg nob w w') : RowsL w' c n L U := by
  intro i hi
  obtain ⟨xb, xo, A, C, e, l, hc, hp⟩ := h i hi
  exact ⟨xb, xo, A, C, e, Nat.lt_of_lt_of_le l k.size, k.see hc, PairE.keep hp k⟩
theorem RowsL.of {w : World} {c : Option Addr} {n : Nat} {A : Nat → Option Addr} {L C : Nat → Nat} {f g : Nat → Nat → Int} (h : RowsV w c n A L C f g) (ho : ∀ i, i < n → okP (f i) (g i) (L i) = true) : RowsL w c n L (fun i => elF (f i) (g i)) := by
  intro i hi
  obtain ⟨xb, xo, e, l, hc, hp⟩ := h i hi
  exact ⟨xb, xo, A i, C i, e, l, hc, PairE.of hp (ho i hi)⟩

/-- What a check answers: point, claim and source at code 0. -/
def VfAns (w : World) (m : Nat) (cs : Option Addr) (len caps : Nat) (code : Int) (R : Nat → El) (X : El) (a : Int) (s : ByteArray) (c : Int) (e : Ending) (w' : World) : Prop :=
  ∃ (cP : Option Addr) (n' capP : Nat) (x' : El) (a' : Int) (s' : ByteArray) (c' : Int), e = .returned (.tuple #[.slice cP n' capP, .agg #[.int .i64 x'.v.1, .int .i64 x'.v.2], .agg #[.slice cs len caps, .int .i64 a', .string s', .int .i64 c'], .int .i64 code]) ∧ (code = 0 → n' = m ∧ OwnE w' w.heap.size cP m (cA R) (cB R) ∧ x' = X ∧ a' = a ∧ s' = s ∧ c' = c) ∧ Chg nob w w'

set_option maxHeartbeats 4000000 in
theorem sVerT_any {k : Nat} (hk : k = 1 ∨ k = 2) (c : Option Addr) (m cap : Nat) (hm : m ≤ 6) (L : Nat → Nat) (U : Nat → Nat → El) (X R : Nat → El) (Qa : Nat → Int) (Qs : Nat → ByteArray) (Qc : Nat → Int) (code : Int) (vd : Nat → Nat → Int) (cs : Option Addr) (len caps : Nat) (f g : Nat → Int) (w : World) (h : Hid (RowsL w c m L U)) (hL : Hid (∀ i, i < m → L i ≤ 8)) (hs : Hid (PairV w cs len f g)) (hl : len ≤ 64)
    (hV : Hid (∀ i n, vd i (n + 1) = if L i = k + 2 then (if (El.ad (U i 0) (U i 1)).v = (X i).v then vd (i + 1) n else 10) else 18)) (hV0 : Hid (∀ i, vd i 0 = 0)) (hcd : Hid (code = vd 0 m))
    (hX : Hid (∀ i, X (i + 1) = El.lag (U i) (R i) (k + 2))) (hS : Hid (∀ i, Qs (i + 1) = abS (Qs i) (etx (cA (U i)) (cB (U i)) (k + 2)))) (hA : Hid (∀ i, Qa (i + 1) = dnA len (Qa i) 1)) (hC : Hid (∀ i, Qc (i + 1) = dnC len 0 1))
    (hD : Hid (∀ i, drE f len (Qa i) (Qs (i + 1)) 0 0 = (R i).v.1 ∧ drF g len (Qa i) (Qs (i + 1)) 0 0 = (R i).v.2)) (hZ : Hid (∀ i, (Qs i).size = 32)) (hB : Hid (∀ i, i ≤ 6 → 0 ≤ Qa i ∧ Qa i ≤ 1000000)) :
    Calls Tryz.prog 53 #[.int .i64 (k : Int), .agg #[.int .i64 (X 0).v.1, .int .i64 (X 0).v.2], .slice c m cap, .int .i64 (m : Int), .agg #[.slice cs len caps, .int .i64 (Qa 0), .string (Qs 0), .int .i64 (Qc 0)]] w fun e w' => VfAns w m cs len caps code R (X m) (Qa m) (Qs m) (Qc m) e w' := by
  obtain ⟨i0, hi, hz0, hz1, hz2⟩ := info_parts infoExt
  have HI := hik hi
  have HZ0 := hik hz0
  have HZ1 := hik hz1
  have HZ2 := hik hz2
  clear hi hz0 hz1 hz2
  have hk2 : k ≤ 2 := by rcases hk with rfl | rfl <;> omega
  obtain ⟨d, hd⟩ : ∃ d, d = k + 1 := ⟨_, rfl⟩
  have HD := hik hd
  have hd3 : d ≤ 3 := by omega
  have hwd : IntKind.i64.wrap ((k : Int) + 1) = (d : Int) := by rw [IntKind.wrap_i64]; omega
  have hwe : IntKind.i64.wrap ((d : Int) + 1) = ((k + 2 : Nat) : Int) := by rw [IntKind.wrap_i64]; omega
  have QD := hik (fun (w : World) => sDeg_any (k : Int) (d : Int) hwd w)
  clear hk hd
  have E0 := hik ((ElB.new w (X 0)).keep ((((Chg.refl nob _).alloc (.cells #[.slice cs len caps, .int .i64 (Qa 0), .string (Qs 0), .int .i64 (Qc 0)] 28)).alloc (.cells #[.int .i64 0, .int .i64 0] 31)).alloc (.cells #[.slice none 0 0, .int .i64 0, .string ⟨#[]⟩, .int .i64 0] 28)))
  have S0 : Hid ((((((w.alloc (.cells #[.int .i64 (X 0).v.1, .int .i64 (X 0).v.2] 31)).alloc (.cells #[.slice cs len caps, .int .i64 (Qa 0), .string (Qs 0), .int .i64 (Qc 0)] 28)).alloc (.cells #[.int .i64 0, .int .i64 0] 31)).alloc (.cells #[.slice none 0 0, .int .i64 0, .string ⟨#[]⟩, .int .i64 0] 28))).rowIs (w.heap.size + 1) 28 4 (pv4 (.slice cs len caps) (.int .i64 (Qa 0)) (.string (Qs 0)) (.int .i64 (Qc 0)))) := hik (by simpa using World.rowIs.alloc (World.rowIs.alloc (row4_new (w.alloc (.cells #[.int .i64 (X 0).v.1, .int .i64 (X 0).v.2] 31)) (.slice cs len caps) (.int .i64 (Qa 0)) (.string (Qs 0)) (.int .i64 (Qc 0)) 28) (.cells #[.int .i64 0, .int .i64 0] 31)) (.cells #[.slice none 0 0, .int .i64 0, .string ⟨#[]⟩, .int .i64 0] 28))
  have F0 : Hid (ElB (((((w.alloc (.cells #[.int .i64 (X 0).v.1, .int .i64 (X 0).v.2] 31)).alloc (.cells #[.slice cs len caps, .int .i64 (Qa 0), .string (Qs 0), .int .i64 (Qc 0)] 28)).alloc (.cells #[.int .i64 0, .int .i64 0] 31)).alloc (.cells #[.slice none 0 0, .int .i64 0, .string ⟨#[]⟩, .int .i64 0] 28))) (w.heap.size + 1 + 1) El.zr) := hik (by simpa using (ElB.zero ((w.alloc (.cells #[.int .i64 (X 0).v.1, .int .i64 (X 0).v.2] 31)).alloc (.cells #[.slice cs len caps, .int .i64 (Qa 0), .string (Qs 0), .int .i64 (Qc 0)] 28))).keep ((Chg.refl nob _).alloc (.cells #[.slice none 0 0, .int .i64 0, .string ⟨#[]⟩, .int .i64 0] 28)))
  have Y0 : Hid ((((((w.alloc (.cells #[.int .i64 (X 0).v.1, .int .i64 (X 0).v.2] 31)).alloc (.cells #[.slice cs len caps, .int .i64 (Qa 0), .string (Qs 0), .int .i64 (Qc 0)] 28)).alloc (.cells #[.int .i64 0, .int .i64 0] 31)).alloc (.cells #[.slice none 0 0, .int .i64 0, .string ⟨#[]⟩, .int .i64 0] 28))).rowIs (w.heap.size + 1 + 1 + 1) 28 4 (pv4 (.slice none 0 0) (.int .i64 0) (.string ⟨#[]⟩) (.int .i64 0))) := hik (by simpa using row4_new (((w.alloc (.cells #[.int .i64 (X 0).v.1, .int .i64 (X 0).v.2] 31)).alloc (.cells #[.slice cs len caps, .int .i64 (Qa 0), .string (Qs 0), .int .i64 (Qc 0)] 28)).alloc (.cells #[.int .i64 0, .int .i64 0] 31)) (.slice none 0 0) (.int .i64 0) (.string ⟨#[]⟩) (.int .i64 0) 28)
  have G0 := hik (((((Chg.refl nob w).alloc (.cells #[.int .i64 (X 0).v.1, .int .i64 (X 0).v.2] 31)).alloc (.cells #[.slice cs len caps, .int .i64 (Qa 0), .string (Qs 0), .int .i64 (Qc 0)] 28)).alloc (.cells #[.int .i64 0, .int .i64 0] 31)).alloc (.cells #[.slice none 0 0, .int .i64 0, .string ⟨#[]⟩, .int .i64 0] 28))
  have HSZ : Hid (((((w.alloc (.cells #[.int .i64 (X 0).v.1, .int .i64 (X 0).v.2] 31)).alloc (.cells #[.slice cs len caps, .int .i64 (Qa 0), .string (Qs 0), .int .i64 (Qc 0)] 28)).alloc (.cells #[.int .i64 0, .int .i64 0] 31)).alloc (.cells #[.slice none 0 0, .int .i64 0, .string ⟨#[]⟩, .int .i64 0] 28)).heap.size = w.heap.size + 4) := hik (by simp)
  go_enter Tryz.func53, Tryz.ntmps53
  go_upto_region 1 with fail
  generalize hE : ((((w.alloc (.cells #[.int .i64 (X 0).v.1, .int .i64 (X 0).v.2] 31)).alloc (.cells #[.slice cs len caps, .int .i64 (Qa 0), .string (Qs 0), .int .i64 (Qc 0)] 28)).alloc (.cells #[.int .i64 0, .int .i64 0] 31)).alloc (.cells #[.slice none 0 0, .int .i64 0, .string ⟨#[]⟩, .int .i64 0] 28)) = W0 at E0 S0 F0 Y0 G0 HSZ ⊢
  clear hE
  go_wp2
  go_loopw [14, 15] (fun u j W => ∃ i n' : Nat, i + n' = m ∧ j = .int .i64 (i : Int) ∧ Hid (code = vd i n') ∧ Hid (W.ownsRow W0.heap.size 31 2 u i ((List.range (i * 2)).map (pf (cA R) (cB R)))) ∧ Hid (ElB W w.heap.size (X i)) ∧ Hid (W.rowIs (w.heap.size + 1) 28 4 (pv4 (.slice cs len caps) (.int .i64 (Qa i)) (.string (Qs i)) (.int .i64 (Qc i)))) ∧ Hid (ElB W (w.heap.size + 1 + 1) El.zr) ∧ Hid (W.rowIs (w.heap.size + 1 + 1 + 1) 28 4 (pv4 (.slice none 0 0) (.int .i64 0) (.string ⟨#[]⟩) (.int .i64 0))) ∧ Hid (Chg nob w W)) (fun _ j _ => m - (intOf j).toNat)
  case atStart => exact ⟨0, m, by omega, rfl, hcd, hik (flNone W0 W0.heap.size 31 2 (Nat.le_refl _)), hik (E0.out.keep ((Chg.refl nob _).alloc _)), hik (World.rowIs.alloc S0.out _), hik (F0.out.keep ((Chg.refl nob _).alloc _)), hik (World.rowIs.alloc Y0.out _), hik (G0.out.alloc _)⟩
  case round =>
    clear E0 S0 F0 Y0 G0 hcd
    obtain ⟨i, n', hin, rfl, HC, HW, HE, HS, HF, HY, HG⟩ := hrel
    rename World => wi
    by_cases hlt : i < m
    · obtain ⟨n'', rfl⟩ : ∃ n'', n' = n'' + 1 := ⟨n' - 1, by omega⟩
      have hi1 : (i : Int) < (m : Int) := by omega
      have hi0 : (0 : Int) ≤ (i : Int) := by omega
      obtain ⟨xb, xo, A, Cp, ec, hxb, hc, hP⟩ := (h.out.keep HG.out) i hlt
      subst ec
      have PU := hik hP
      obtain ⟨xb0, xo0, A', Cp', ec0, _, hc0, hP0⟩ := h.out i hlt
      cases ec0
      have PU0 := hik (show PairE w A (L i) (U i) by have q := HG.out.see hc0; rw [hc] at q; cases q; exact hP0)
      clear hc0 hP0
      have HL8 := hik (hL.out i hlt)
      have HVI := hik (hV.out i n'')
      clear hP
      by_cases hLk : L i = k + 2
      · rw [hLk] at hc PU PU0
        go_wp2_with fail
        refine (QD.out _).mono ?_
        rintro e W1 ⟨rfl, hw⟩
        have hw' := hw.symm
        clear hw
        subst hw'
        go_upto_region 10 with fail
        obtain ⟨ab, ao, ea, hab, _, _⟩ := PairE.at_ PU.out (show 0 < k + 2 by omega)
        subst ea
        have u0 : wi.cell? ⟨ab, ao, none⟩ = some (.int .i64 (U i 0).v.1) := by have q := PairE.c0 PU.out (i := 0) (by omega); simpa using q
        have u1 : wi.cell? ⟨ab, ao + 1, none⟩ = some (.int .i64 (U i 0).v.2) := by have q := PairE.c1 PU.out (i := 0) (by omega); simpa using q
        have y0 : wi.cell? ⟨ab, ao + 2, none⟩ = some (.int .i64 (U i 1).v.1) := by have q := PairE.c0 PU.out (i := 1) (by omega); simpa using q
        have y1 : wi.cell? ⟨ab, ao + 2 + 1, none⟩ = some (.int .i64 (U i 1).v.2) := by have q := PairE.c1 PU.out (i := 1) (by omega); simpa using q
        have z0 := HE.out.c0
        have z1 := HE.out.c1
        have hq0 : (0 : Int) < (k : Int) + 2 := by omega
        have hq1 : (1 : Int) < (k : Int) + 2 := by omega
        by_cases hsum : (El.ad (U i 0) (U i 1)).v = (X i).v
        · have hs1 : (El.ad (U i 0) (U i 1)).v.1 = (X i).v.1 := by rw [hsum]
          have hs2 : (El.ad (U i 0) (U i 1)).v.2 = (X i).v.2 := by rw [hsum]
          have KW := hik ((Chg.refl nob wi).drew1)
          have SA := hik (fun (WW : World) (kW : Chg nob wi WW) => (show (WW.cell? ⟨ab, ao, none⟩ = some (.int .i64 (U i 0).v.1) ∧ WW.cell? ⟨ab, ao + 1, none⟩ = some (.int .i64 (U i 0).v.2) ∧ WW.cell? ⟨ab, ao + 2, none⟩ = some (.int .i64 (U i 1).v.1) ∧ WW.cell? ⟨ab, ao + 2 + 1, none⟩ = some (.int .i64 (U i 1).v.2) ∧ WW.cell? ⟨w.heap.size, 0, none⟩ = some (.int .i64 (X i).v.1) ∧ WW.cell? ⟨w.heap.size, 1, none⟩ = some (.int .i64 (X i).v.2)) from ⟨kW.see u0, kW.see u1, kW.see y0, kW.see y1, kW.see z0, kW.see z1⟩))
          refine wp_region_held_drew (S := fun w' => w'.cell? ⟨ab, ao, none⟩ = some (.int .i64 (U i 0).v.1) ∧ w'.cell? ⟨ab, ao + 1, none⟩ = some (.int .i64 (U i 0).v.2) ∧ w'.cell? ⟨ab, ao + 2, none⟩ = some (.int .i64 (U i 1).v.1) ∧ w'.cell? ⟨ab, ao + 2 + 1, none⟩ = some (.int .i64 (U i 1).v.2) ∧ w'.cell? ⟨w.heap.size, 0, none⟩ = some (.int .i64 (X i).v.1) ∧ w'.cell? ⟨w.heap.size, 1, none⟩ = some (.int .i64 (X i).v.2)) (by kernel_rfl) ⟨u0, u1, y0, y1, z0, z1⟩ (fun hHeld => ?_)
          refine wpAnyH_take (i := 0) (v := ?_) rfl (by kernel_rfl) (by kernel_rfl) (by kernel_rfl) (fun _ _ _ h => h) (Or.inl ⟨by rfl, ?_⟩) (by assumption) ?_
          rotate_left 1
          · (intro w' hSw; (try dsimp only at hSw); go_simp; try with_reducible rfl)
          try simp only [Act.put, List.setIfInBounds_toArray, List.set_cons_zero, List.set_cons_succ, List.getElem_toArray, List.getElem_cons_zero, List.getElem_cons_succ]
          refine wpAnyH_take (i := 1) (v := ?_) rfl (by kernel_rfl) (by kernel_rfl) (by kernel_rfl) (fun _ _ _ h => h) (Or.inl ⟨by rfl, ?_⟩) (by assumption) ?_
          rotate_left 1
          · (intro w' hSw; (try dsimp only at hSw); go_simp; try with_reducible rfl)
          try simp only [Act.put, List.setIfInBounds_toArray, List.set_cons_zero, List.set_cons_succ, List.getElem_toArray, List.getElem_cons_zero, List.getElem_cons_succ]
          refine wpAnyH_take (i := 2) (v := ?_) rfl (by kernel_rfl) (by kernel_rfl) (by kernel_rfl) (fun _ _ _ h => h) (Or.inl ⟨by rfl, ?_⟩) (by assumption) ?_
          rotate_left 1
          · (intro w' hSw; (try dsimp only at hSw); go_simp; try with_reducible rfl)
          try simp only [Act.put, List.setIfInBounds_toArray, List.set_cons_zero, List.set_cons_succ, List.getElem_toArray, List.getElem_cons_zero, List.getElem_cons_succ]
          refine wpAnyH_take (i := 3) (v := ?_) rfl (by kernel_rfl) (by kernel_rfl) (by kernel_rfl) (fun _ _ _ h => h) (Or.inl ⟨by rfl, ?_⟩) (by assumption) ?_
          rotate_left 1
          · (intro w' hSw; (try dsimp only at hSw); go_simp; try with_reducible rfl)
          try simp only [Act.put, List.setIfInBounds_toArray, List.set_cons_zero, List.set_cons_succ, List.getElem_toArray, List.getElem_cons_zero, List.getElem_cons_succ]
          refine wpAnyH_take (i := 4) (v := ?_) rfl (by kernel_rfl) (by kernel_rfl) (by kernel_rfl) (fun _ _ _ h => h) (Or.inl ⟨by rfl, ?_⟩) (by assumption) ?_
          rotate_left 1
          · (intro w' hSw; (try dsimp only at hSw); go_simp; try with_reducible rfl)
          try simp only [Act.put, List.setIfInBounds_toArray, List.set_cons_zero, List.set_cons_succ, List.getElem_toArray, List.getElem_cons_zero, List.getElem_cons_succ]
          refine wpAnyH_take (i := 5) (v := ?_) rfl (by kernel_rfl) (by kernel_rfl) (by kernel_rfl) (fun _ _ _ h => h) (Or.inl ⟨by rfl, ?_⟩) (by assumption) ?_
          rotate_left 1
          · (intro w' hSw; (try dsimp only at hSw); go_simp; try with_reducible rfl)
          try simp only [Act.put, List.setIfInBounds_toArray, List.set_cons_zero, List.set_cons_succ, List.getElem_toArray, List.getElem_cons_zero, List.getElem_cons_succ]
          refine wpAnyH_take (i := 7) (v := ?_) rfl (by kernel_rfl) (by kernel_rfl) (by kernel_rfl) (fun _ _ _ h => h) (Or.inl ⟨by rfl, ?_⟩) (by assumption) ?_
          rotate_left 1
          · (intro w' hSw; (try dsimp only at hSw); go_simp; try with_reducible rfl)
          try simp only [Act.put, List.setIfInBounds_toArray, List.set_cons_zero, List.set_cons_succ, List.getElem_toArray, List.getElem_cons_zero, List.getElem_cons_succ]
          refine wpAnyH_ready (rs := [6]) (by kernel_rfl) (by simp) ?_
          refine AllReadyH.cons rfl (fun K hK => ?_) AllReadyH.nil
          refine stepL_callN 66 #[.tmp 47, .tmp 50] #[31, 31] (by rfl) (by rfl) #[.agg #[.int .i64 (U i 0).v.1, .int .i64 (U i 0).v.2], .agg #[.int .i64 (U i 1).v.1, .int .i64 (U i 1).v.2]] (by simp only [List.map_toArray, List.map_cons, List.map_nil] <;> rfl) (run_go Tryz.func66 (by kernel_rfl) (by kernel_rfl) _ _) (sAd_el (U i 0) (U i 1) _) ?_
          rintro e U1 ⟨he, kk⟩
          refine ⟨_, he, ?_⟩
          replace KW := hik (KW.out.trans kk)
          refine hK.out _ _ (SA.out _ KW.out) (fun hHeld => ?_)
          clear hK K
          try simp only [Act.put, List.setIfInBounds_toArray, List.set_cons_zero, List.set_cons_succ, List.getElem_toArray, List.getElem_cons_zero, List.getElem_cons_succ]
          clear he kk
          refine wpAnyH_take (i := 8) (v := .bool false) rfl (by kernel_rfl) (by kernel_rfl) (by kernel_rfl) (fun _ _ _ h => h) (Or.inl ⟨by rfl, ?_⟩) (by assumption) ?_
          · (intro w' hSw; (try dsimp only at hSw); go_simp; try rfl)
          try simp only [Act.put, List.setIfInBounds_toArray, List.set_cons_zero, List.set_cons_succ, List.getElem_toArray, List.getElem_cons_zero, List.getElem_cons_succ]
          refine wpAnyH_done (by kernel_rfl) ?_ _
          replace HW := hik (flKeep HW.out KW.out)
          replace HE := hik (HE.out.keep KW.out)
          replace HS := hik (rowIs_keep HS.out KW.out)
          replace HF := hik (HF.out.keep KW.out)
          replace HY := hik (rowIs_keep HY.out KW.out)
          replace HG := hik (HG.out.trans KW.out)
          replace PU := hik (PairE.keep PU.out KW.out)
          clear SA hHeld KW u0 u1 y0 y1 z0 z1 hc
          have HC2 := hik (show code = vd (i + 1) n'' by rw [HC.out, HVI.out, if_pos hLk, if_pos hsum])
          clear HC HVI
          have zS : w.heap.size + 1 < U1.heap.size := HS.out.lt
          have zS2 : w.heap.size < U1.heap.size := by omega
          have x0 : (U1).cell? ⟨w.heap.size + 1, 0, none⟩ = some (.slice cs len caps) := HS.out.cell (by omega)
          have x1 : (U1).cell? ⟨w.heap.size + 1, 1, none⟩ = some (.int .i64 (Qa i)) := HS.out.cell (by omega)
          have x2 : (U1).cell? ⟨w.heap.size + 1, 2, none⟩ = some (.string (Qs i)) := HS.out.cell (by omega)
          have x3 : (U1).cell? ⟨w.heap.size + 1, 3, none⟩ = some (.int .i64 (Qc i)) := HS.out.cell (by omega)
          go_wp2_with fail
          refine (sExts_any cs len caps (Qa i) (Qs i) (Qc i) (some ⟨ab, ao, none⟩) (k + 2) Cp (cA (U i)) (cB (U i)) _ PU (by omega) (hik (okP_el _ _)) (hZ.out i)).mono ?_
          rintro e W2 ⟨he, k2⟩
          rw [← hS.out i] at he
          subst he
          replace HW := hik (flKeep HW.out k2)
          replace HE := hik (HE.out.keep k2)
          replace HS := hik (rowIs_keep HS.out k2)
          replace HF := hik (HF.out.keep k2)
          replace HY := hik (rowIs_keep HY.out k2)
          replace HG := hik (HG.out.trans k2)
          replace PU := hik (PairE.keep PU.out k2)
          clear k2 x0 x1 x2 x3 zS zS2
          have zS : w.heap.size + 1 < W2.heap.size := HS.out.lt
          have zS2 : w.heap.size < W2.heap.size := by omega
          have x0 : (W2).cell? ⟨w.heap.size + 1, 0, none⟩ = some (.slice cs len caps) := HS.out.cell (by omega)
          have x1 : (W2).cell? ⟨w.heap.size + 1, 1, none⟩ = some (.int .i64 (Qa i)) := HS.out.cell (by omega)
          have x2 : (W2).cell? ⟨w.heap.size + 1, 2, none⟩ = some (.string (Qs i)) := HS.out.cell (by omega)
          have x3 : (W2).cell? ⟨w.heap.size + 1, 3, none⟩ = some (.int .i64 (Qc i)) := HS.out.cell (by omega)
          have v0 := HS.out.frozen 0
          have v1 := HS.out.frozen 1
          have v2 := HS.out.frozen 2
          have v3 := HS.out.frozen 3
          go_upto_region 13 with fail
          have C3 := hik (chg4_set (Chg.refl (fun b => b = w.heap.size + 1) W2) (w.heap.size + 1) (fun _ => rfl) (.slice cs len caps) (.int .i64 (Qa i)) (.string (Qs (i + 1))) (.int .i64 0))
          have S3 := hik (row4_set HS.out (.slice cs len caps) (.int .i64 (Qa i)) (.string (Qs (i + 1))) (.int .i64 0))
          have G3 := hik (chg4_set HG.out (w.heap.size + 1) (fun l => absurd l (by omega)) (.slice cs len caps) (.int .i64 (Qa i)) (.string (Qs (i + 1))) (.int .i64 0))
          clear x0 x1 x2 x3 v0 v1 v2 v3 zS zS2 HS HG
          generalize hE : (((W2.setCell ⟨w.heap.size + 1, 0, none⟩ (.slice cs len caps)).setCell ⟨w.heap.size + 1, 1, none⟩ (.int .i64 (Qa i))).setCell ⟨w.heap.size + 1, 2, none⟩ (.string (Qs (i + 1)))).setCell ⟨w.heap.size + 1, 3, none⟩ (.int .i64 0) = W3 at C3 S3 G3 ⊢
          clear hE
          replace HW := hik (owns_far HW.out C3.out (fun b hb e => by have := HSZ.out; omega))
          replace HE := hik (HE.out.chg C3.out (by omega))
          replace HF := hik (HF.out.chg C3.out (by omega))
          replace HY := hik (rowIs_chg HY.out C3.out (by omega))
          replace PU := hik (show PairE W3 (some ⟨ab, ao, none⟩) (k + 2) (U i) from PU0.out.keep G3.out)
          clear C3
          have zS : w.heap.size + 1 < W3.heap.size := S3.out.lt
          have zS2 : w.heap.size < W3.heap.size := by omega
          have x0 : (W3).cell? ⟨w.heap.size + 1, 0, none⟩ = some (.slice cs len caps) := S3.out.cell (by omega)
          have x1 : (W3).cell? ⟨w.heap.size + 1, 1, none⟩ = some (.int .i64 (Qa i)) := S3.out.cell (by omega)
          have x2 : (W3).cell? ⟨w.heap.size + 1, 2, none⟩ = some (.string (Qs (i + 1))) := S3.out.cell (by omega)
          have x3 : (W3).cell? ⟨w.heap.size + 1, 3, none⟩ = some (.int .i64 0) := S3.out.cell (by omega)
          go_wp2_with fail
          refine (sDraw_any cs len caps (Qa i) (Qs (i + 1)) 0 f g _ (hik (hs.out.keep G3.out)) hl (hZ.out (i + 1)) (hB.out i (by omega)).1 (hB.out i (by omega)).2 (by omega) (by omega)).mono ?_
          rintro e W4 ⟨he, k4⟩
          rw [← hA.out i, ← hC.out i, (hD.out i).1, (hD.out i).2] at he
          subst he
          replace HW := hik (flKeep HW.out k4)
          replace HE := hik (HE.out.keep k4)
          replace S3 := hik (rowIs_keep S3.out k4)
          replace HF := hik (HF.out.keep k4)
          replace HY := hik (rowIs_keep HY.out k4)
          replace G3 := hik (G3.out.trans k4)
          clear k4 x0 x1 x2 x3 zS zS2
          have zS : w.heap.size + 1 < W4.heap.size := S3.out.lt
          have zS2 : w.heap.size < W4.heap.size := by omega
          have x0 : (W4).cell? ⟨w.heap.size + 1, 0, none⟩ = some (.slice cs len caps) := S3.out.cell (by omega)
          have x1 : (W4).cell? ⟨w.heap.size + 1, 1, none⟩ = some (.int .i64 (Qa i)) := S3.out.cell (by omega)
          have x2 : (W4).cell? ⟨w.heap.size + 1, 2, none⟩ = some (.string (Qs (i + 1))) := S3.out.cell (by omega)
          have x3 : (W4).cell? ⟨w.heap.size + 1, 3, none⟩ = some (.int .i64 0) := S3.out.cell (by omega)
          have v0 := S3.out.frozen 0
          have v1 := S3.out.frozen 1
          have v2 := S3.out.frozen 2
          have v3 := S3.out.frozen 3
          go_upto_region 15 with fail
          have C5 := hik (((chg4_set (Chg.refl (fun b => b = w.heap.size + 1) W4) (w.heap.size + 1) (fun _ => rfl) (.slice cs len caps) (.int .i64 (Qa (i + 1))) (.string (Qs (i + 1))) (.int .i64 (Qc (i + 1)))).alloc (.cells #[.slice cs len caps, .int .i64 (Qa (i + 1)), .string (Qs (i + 1)), .int .i64 (Qc (i + 1))] 28)).alloc (.cells #[.int .i64 (R i).v.1, .int .i64 (R i).v.2] 31))
          have S5 := hik (World.rowIs.alloc (World.rowIs.alloc (row4_set S3.out (.slice cs len caps) (.int .i64 (Qa (i + 1))) (.string (Qs (i + 1))) (.int .i64 (Qc (i + 1)))) (.cells #[.slice cs len caps, .int .i64 (Qa (i + 1)), .string (Qs (i + 1)), .int .i64 (Qc (i + 1))] 28)) (.cells #[.int .i64 (R i).v.1, .int .i64 (R i).v.2] 31))
          have G5 := hik (((chg4_set G3.out (w.heap.size + 1) (fun l => absurd l (by omega)) (.slice cs len caps) (.int .i64 (Qa (i + 1))) (.string (Qs (i + 1))) (.int .i64 (Qc (i + 1)))).alloc (.cells #[.slice cs len caps, .int .i64 (Qa (i + 1)), .string (Qs (i + 1)), .int .i64 (Qc (i + 1))] 28)).alloc (.cells #[.int .i64 (R i).v.1, .int .i64 (R i).v.2] 31))
          have X5 : Hid (ElB ((((((W4.setCell ⟨w.heap.size + 1, 0, none⟩ (.slice cs len caps)).setCell ⟨w.heap.size + 1, 1, none⟩ (.int .i64 (Qa (i + 1)))).setCell ⟨w.heap.size + 1, 2, none⟩ (.string (Qs (i + 1)))).setCell ⟨w.heap.size + 1, 3, none⟩ (.int .i64 (Qc (i + 1)))).alloc (.cells #[.slice cs len caps, .int .i64 (Qa (i + 1)), .string (Qs (i + 1)), .int .i64 (Qc (i + 1))] 28)).alloc (.cells #[.int .i64 (R i).v.1, .int .i64 (R i).v.2] 31)) (W4.heap.size + 1) (R i)) := hik (by simpa using ElB.new (((((W4.setCell ⟨w.heap.size + 1, 0, none⟩ (.slice cs len caps)).setCell ⟨w.heap.size + 1, 1, none⟩ (.int .i64 (Qa (i + 1)))).setCell ⟨w.heap.size + 1, 2, none⟩ (.string (Qs (i + 1)))).setCell ⟨w.heap.size + 1, 3, none⟩ (.int .i64 (Qc (i + 1)))).alloc (.cells #[.slice cs len caps, .int .i64 (Qa (i + 1)), .string (Qs (i + 1)), .int .i64 (Qc (i + 1))] 28)) (R i))
          clear x0 x1 x2 x3 v0 v1 v2 v3 zS zS2 S3 G3
          generalize hE : (((((W4.setCell ⟨w.heap.size + 1, 0, none⟩ (.slice cs len caps)).setCell ⟨w.heap.size + 1, 1, none⟩ (.int .i64 (Qa (i + 1)))).setCell ⟨w.heap.size + 1, 2, none⟩ (.string (Qs (i + 1)))).setCell ⟨w.heap.size + 1, 3, none⟩ (.int .i64 (Qc (i + 1)))).alloc (.cells #[.slice cs len caps, .int .i64 (Qa (i + 1)), .string (Qs (i + 1)), .int .i64 (Qc (i + 1))] 28)).alloc (.cells #[.int .i64 (R i).v.1, .int .i64 (R i).v.2] 31) = W5 at C5 S5 G5 X5 ⊢
          clear hE
          have hrb := hik (show w.heap.size + 1 + 1 + 1 < W4.heap.size from HY.out.lt)
          replace HW := hik (owns_far HW.out C5.out (fun b hb e => by have := HSZ.out; omega))
          replace HE := hik (HE.out.chg C5.out (by omega))
          replace HF := hik (HF.out.chg C5.out (by omega))
          replace HY := hik (rowIs_chg HY.out C5.out (by omega))
          have P5 := hik (show PairE W5 (some ⟨ab, ao, none⟩) (k + 2) (U i) from PU0.out.keep G5.out)
          have hX5 := hik (show w.heap.size + 1 + 1 + 1 < W4.heap.size + 1 by have := hrb.out; omega)
          clear C5 hrb
          generalize hEx : W4.heap.size + 1 = rb at X5 hX5 ⊢
          clear hEx
          have y0 := X5.out.c0
          have y1 := X5.out.c1
          have zX : rb < W5.heap.size := X5.out.lt
          go_wp2_with fail
          refine (sLine_any (some ⟨ab, ao, none⟩) (k + 2) Cp (U i) (R i) _ P5 (by omega)).mono ?_
          rintro e W6 ⟨he, k6⟩
          rw [← hX.out i] at he
          subst he
          replace HW := hik (flKeep HW.out k6)
          replace HE := hik (HE.out.keep k6)
          replace S5 := hik (rowIs_keep S5.out k6)
          replace HF := hik (HF.out.keep k6)
          replace HY := hik (rowIs_keep HY.out k6)
          replace X5 := hik (X5.out.keep k6)
          replace G5 := hik (G5.out.trans k6)
          clear k6 y0 y1 zX P5
          have z0 := HE.out.c0
          have z1 := HE.out.c1
          have v0 := HE.out.fz 0
          have v1 := HE.out.fz 1
          have zE : w.heap.size < W6.heap.size := HE.out.lt
          go_upto_region 16 with fail
          have C7 := hik (chg2_at (Chg.refl (fun b => b = w.heap.size) W6) w.heap.size (fun _ => rfl) 0 1 (.int .i64 (X (i + 1)).v.1) (.int .i64 (X (i + 1)).v.2))
          have E7 := hik (HE.out.set (X (i + 1)))
          have G7 := hik (chg2_at G5.out w.heap.size (fun l => absurd l (by omega)) 0 1 (.int .i64 (X (i + 1)).v.1) (.int .i64 (X (i + 1)).v.2))
          clear z0 z1 v0 v1 zE HE G5
          generalize hE : (W6.setCell ⟨w.heap.size, 0, none⟩ (.int .i64 (X (i + 1)).v.1)).setCell ⟨w.heap.size, 1, none⟩ (.int .i64 (X (i + 1)).v.2) = W7 at C7 E7 G7 ⊢
          clear hE
          replace HW := hik (owns_far HW.out C7.out (fun b hb e => by have := HSZ.out; omega))
          replace S5 := hik (rowIs_chg S5.out C7.out (by omega))
          replace HF := hik (HF.out.chg C7.out (by omega))
          replace HY := hik (rowIs_chg HY.out C7.out (by omega))
          replace X5 := hik (X5.out.chg C7.out (by have := hX5.out; omega))
          clear C7
          have y0 := X5.out.c0
          have y1 := X5.out.c1
          have zX : rb < W7.heap.size := X5.out.lt
          have hsz := hik (show w.heap.size + 1 + 1 + 1 < W7.heap.size from HY.out.lt)
          go_wp2_with (at_builtin; refine wpList_append_own _ rfl (.tmp 69) (.tmp 71) 26 rfl W0.heap.size 31 i0 (.agg #[.int .i64 0, .int .i64 0]) 2 16 Tryz.underlying26 HI.out HZ0.out HZ1.out HZ2.out rfl (by decide) _ i _ rfl (HW.out.alloc _) ⟨_, 0, none⟩ 1 1 [.int .i64 (R i).v.1, .int .i64 (R i).v.2] rfl rfl ?c1 ?c2 ?c3 ?c4 ?c5 ?c6)
          case c1 => exact flNews _ _ _ _
          case c2 => exact flOne _ _
          case c3 => unfold maxLen; omega
          case c4 => omega
          case c5 => have := hsz.out; have := HSZ.out; simp; omega
          case c6 =>
            intro v' w2 hown hgr _
            have HW2 : Hid (w2.ownsRow W0.heap.size 31 2 v' (i + 1) ((List.range ((i + 1) * 2)).map (pf (cA R) (cB R)))) := hik (by rw [← flPair]; exact hown)
            have C8 := hik (((Chg.refl (fun b => w.heap.size + 4 ≤ b) W7).alloc (.cells #[.int .i64 (R i).v.1, .int .i64 (R i).v.2] 31)).trans ((Chg.refl (fun b => w.heap.size + 4 ≤ b) _).grown hgr (fun b e _ => by have := (HW.out.lt b e).1; have := HSZ.out; omega)))
            replace E7 := hik (E7.out.chg C8.out (by omega))
            replace S5 := hik (rowIs_chg S5.out C8.out (by omega))
            replace HF := hik (HF.out.chg C8.out (by omega))
            replace HY := hik (rowIs_chg HY.out C8.out (by omega))
            replace G7 := hik (G7.out.near C8.out (fun b e => by omega))
            clear hown hgr HW y0 y1 zX X5 C8
            go_wp2
            go_roundw
            case rel => exact ⟨i + 1, n'', by omega, by go_num, HC2, HW2, E7, S5, HF, HY, G7⟩
            case measure => simp [intOf]; omega
        · have hs0 := hsum
          have KW := hik ((Chg.refl nob wi).drew1)
          have SA := hik (fun (WW : World) (kW : Chg nob wi WW) => (show (WW.cell? ⟨ab, ao, none⟩ = some (.int .i64 (U i 0).v.1) ∧ WW.cell? ⟨ab, ao + 1, none⟩ = some (.int .i64 (U i 0).v.2) ∧ WW.cell? ⟨ab, ao + 2, none⟩ = some (.int .i64 (U i 1).v.1) ∧ WW.cell? ⟨ab, ao + 2 + 1, none⟩ = some (.int .i64 (U i 1).v.2) ∧ WW.cell? ⟨w.heap.size, 0, none⟩ = some (.int .i64 (X i).v.1) ∧ WW.cell? ⟨w.heap.size, 1, none⟩ = some (.int .i64 (X i).v.2)) from ⟨kW.see u0, kW.see u1, kW.see y0, kW.see y1, kW.see z0, kW.see z1⟩))
          refine wp_region_held_drew (S := fun w' => w'.cell? ⟨ab, ao, none⟩ = some (.int .i64 (U i 0).v.1) ∧ w'.cell? ⟨ab, ao + 1, none⟩ = some (.int .i64 (U i 0).v.2) ∧ w'.cell? ⟨ab, ao + 2, none⟩ = some (.int .i64 (U i 1).v.1) ∧ w'.cell? ⟨ab, ao + 2 + 1, none⟩ = some (.int .i64 (U i 1).v.2) ∧ w'.cell? ⟨w.heap.size, 0, none⟩ = some (.int .i64 (X i).v.1) ∧ w'.cell? ⟨w.heap.size, 1, none⟩ = some (.int .i64 (X i).v.2)) (by kernel_rfl) ⟨u0, u1, y0, y1, z0, z1⟩ (fun hHeld => ?_)
          refine wpAnyH_take (i := 0) (v := ?_) rfl (by kernel_rfl) (by kernel_rfl) (by kernel_rfl) (fun _ _ _ h => h) (Or.inl ⟨by rfl, ?_⟩) (by assumption) ?_
          rotate_left 1
          · (intro w' hSw; (try dsimp only at hSw); go_simp; try with_reducible rfl)
          try simp only [Act.put, List.setIfInBounds_toArray, List.set_cons_zero, List.set_cons_succ, List.getElem_toArray, List.getElem_cons_zero, List.getElem_cons_succ]
          refine wpAnyH_take (i := 1) (v := ?_) rfl (by kernel_rfl) (by kernel_rfl) (by kernel_rfl) (fun _ _ _ h => h) (Or.inl ⟨by rfl, ?_⟩) (by assumption) ?_
          rotate_left 1
          · (intro w' hSw; (try dsimp only at hSw); go_simp; try with_reducible rfl)
          try simp only [Act.put, List.setIfInBounds_toArray, List.set_cons_zero, List.set_cons_succ, List.getElem_toArray, List.getElem_cons_zero, List.getElem_cons_succ]
          refine wpAnyH_take (i := 2) (v := ?_) rfl (by kernel_rfl) (by kernel_rfl) (by kernel_rfl) (fun _ _ _ h => h) (Or.inl ⟨by rfl, ?_⟩) (by assumption) ?_
          rotate_left 1
          · (intro w' hSw; (try dsimp only at hSw); go_simp; try with_reducible rfl)
          try simp only [Act.put, List.setIfInBounds_toArray, List.set_cons_zero, List.set_cons_succ, List.getElem_toArray, List.getElem_cons_zero, List.getElem_cons_succ]
          refine wpAnyH_take (i := 3) (v := ?_) rfl (by kernel_rfl) (by kernel_rfl) (by kernel_rfl) (fun _ _ _ h => h) (Or.inl ⟨by rfl, ?_⟩) (by assumption) ?_
          rotate_left 1
          · (intro w' hSw; (try dsimp only at hSw); go_simp; try with_reducible rfl)
          try simp only [Act.put, List.setIfInBounds_toArray, List.set_cons_zero, List.set_cons_succ, List.getElem_toArray, List.getElem_cons_zero, List.getElem_cons_succ]
          refine wpAnyH_take (i := 4) (v := ?_) rfl (by kernel_rfl) (by kernel_rfl) (by kernel_rfl) (fun _ _ _ h => h) (Or.inl ⟨by rfl, ?_⟩) (by assumption) ?_
          rotate_left 1
          · (intro w' hSw; (try dsimp only at hSw); go_simp; try with_reducible rfl)
          try simp only [Act.put, List.setIfInBounds_toArray, List.set_cons_zero, List.set_cons_succ, List.getElem_toArray, List.getElem_cons_zero, List.getElem_cons_succ]
          refine wpAnyH_take (i := 5) (v := ?_) rfl (by kernel_rfl) (by kernel_rfl) (by kernel_rfl) (fun _ _ _ h => h) (Or.inl ⟨by rfl, ?_⟩) (by assumption) ?_
          rotate_left 1
          · (intro w' hSw; (try dsimp only at hSw); go_simp; try with_reducible rfl)
          try simp only [Act.put, List.setIfInBounds_toArray, List.set_cons_zero, List.set_cons_succ, List.getElem_toArray, List.getElem_cons_zero, List.getElem_cons_succ]
          refine wpAnyH_take (i := 7) (v := ?_) rfl (by kernel_rfl) (by kernel_rfl) (by kernel_rfl) (fun _ _ _ h => h) (Or.inl ⟨by rfl, ?_⟩) (by assumption) ?_
          rotate_left 1
          · (intro w' hSw; (try dsimp only at hSw); go_simp; try with_reducible rfl)
          try simp only [Act.put, List.setIfInBounds_toArray, List.set_cons_zero, List.set_cons_succ, List.getElem_toArray, List.getElem_cons_zero, List.getElem_cons_succ]
          refine wpAnyH_ready (rs := [6]) (by kernel_rfl) (by simp) ?_
          refine AllReadyH.cons rfl (fun K hK => ?_) AllReadyH.nil
          refine stepL_callN 66 #[.tmp 47, .tmp 50] #[31, 31] (by rfl) (by rfl) #[.agg #[.int .i64 (U i 0).v.1, .int .i64 (U i 0).v.2], .agg #[.int .i64 (U i 1).v.1, .int .i64 (U i 1).v.2]] (by simp only [List.map_toArray, List.map_cons, List.map_nil] <;> rfl) (run_go Tryz.func66 (by kernel_rfl) (by kernel_rfl) _ _) (sAd_el (U i 0) (U i 1) _) ?_
          rintro e U1 ⟨he, kk⟩
          refine ⟨_, he, ?_⟩
          replace KW := hik (KW.out.trans kk)
          refine hK.out _ _ (SA.out _ KW.out) (fun hHeld => ?_)
          clear hK K
          try simp only [Act.put, List.setIfInBounds_toArray, List.set_cons_zero, List.set_cons_succ, List.getElem_toArray, List.getElem_cons_zero, List.getElem_cons_succ]
          clear he kk
          refine wpAnyH_take (i := 8) (v := .bool true) rfl (by kernel_rfl) (by kernel_rfl) (by kernel_rfl) (fun _ _ _ h => h) (Or.inl ⟨by rfl, ?_⟩) (by assumption) ?_
          · (intro w' hSw; (try dsimp only at hSw); go_simp; exact fun e1 e2 => hsum (Prod.ext e1 e2))
          try simp only [Act.put, List.setIfInBounds_toArray, List.set_cons_zero, List.set_cons_succ, List.getElem_toArray, List.getElem_cons_zero, List.getElem_cons_succ]
          refine wpAnyH_done (by kernel_rfl) ?_ _
          replace HW := hik (flKeep HW.out KW.out)
          replace HE := hik (HE.out.keep KW.out)
          replace HS := hik (rowIs_keep HS.out KW.out)
          replace HF := hik (HF.out.keep KW.out)
          replace HY := hik (rowIs_keep HY.out KW.out)
          replace HG := hik (HG.out.trans KW.out)
          replace PU := hik (PairE.keep PU.out KW.out)
          clear SA hHeld KW u0 u1 y0 y1 z0 z1 hc
          have HC2 := hik (show code = 10 by rw [HC.out, HVI.out, if_pos hLk, if_neg hsum])
          clear HC HVI
          go_upto_region 11 with fail
          have x0 : (U1).cell? ⟨w.heap.size + 1, 0, none⟩ = some (.slice cs len caps) := HS.out.cell (by omega)
          have x1 : (U1).cell? ⟨w.heap.size + 1, 1, none⟩ = some (.int .i64 (Qa i)) := HS.out.cell (by omega)
          have x2 : (U1).cell? ⟨w.heap.size + 1, 2, none⟩ = some (.string (Qs i)) := HS.out.cell (by omega)
          have x3 : (U1).cell? ⟨w.heap.size + 1, 3, none⟩ = some (.int .i64 (Qc i)) := HS.out.cell (by omega)
          have KN := hik ((Chg.refl nob U1).drew1)
          have KW := hik ((Chg.refl (fun b => b = w.heap.size + 1 + 1) U1).drew1)
          have SA := hik (fun (WW : World) (kW : Chg (fun b => b = w.heap.size + 1 + 1) U1 WW) => (show (WW.cell? ⟨w.heap.size + 1, 0, none⟩ = some (.slice cs len caps) ∧ WW.cell? ⟨w.heap.size + 1, 1, none⟩ = some (.int .i64 (Qa i)) ∧ WW.cell? ⟨w.heap.size + 1, 2, none⟩ = some (.string (Qs i)) ∧ WW.cell? ⟨w.heap.size + 1, 3, none⟩ = some (.int .i64 (Qc i))) from ⟨kW.seeP x0 (by omega), kW.seeP x1 (by omega), kW.seeP x2 (by omega), kW.seeP x3 (by omega)⟩))
          refine wp_regionL (L := 5) (S := fun w' => w'.cell? ⟨w.heap.size + 1, 0, none⟩ = some (.slice cs len caps) ∧ w'.cell? ⟨w.heap.size + 1, 1, none⟩ = some (.int .i64 (Qa i)) ∧ w'.cell? ⟨w.heap.size + 1, 2, none⟩ = some (.string (Qs i)) ∧ w'.cell? ⟨w.heap.size + 1, 3, none⟩ = some (.int .i64 (Qc i))) (by kernel_rfl) (SA.out _ KW.out) (fun hHeld => ?_)
          refine wpAnyL_take (i := 1) (v := ?_) rfl (by kernel_rfl) (by kernel_rfl) (by kernel_rfl) (fun _ _ _ h => h) (by rfl) (by kernel_rfl) (by kernel_rfl) (Or.inl ⟨by rfl, ?_⟩) (by assumption) ?_
          rotate_left 1
          · (intro w' hSw; (try dsimp only at hSw); go_simp; try with_reducible rfl)
          try simp only [Act.put, List.setIfInBounds_toArray, List.set_cons_zero, List.set_cons_succ, List.getElem_toArray, List.getElem_cons_zero, List.getElem_cons_succ]
          refine wpAnyL_take (i := 2) (v := ?_) rfl (by kernel_rfl) (by kernel_rfl) (by kernel_rfl) (fun _ _ _ h => h) (by rfl) (by kernel_rfl) (by kernel_rfl) (Or.inl ⟨by rfl, ?_⟩) (by assumption) ?_
          rotate_left 1
          · (intro w' hSw; (try dsimp only at hSw); go_simp; try with_reducible rfl)
          try simp only [Act.put, List.setIfInBounds_toArray, List.set_cons_zero, List.set_cons_succ, List.getElem_toArray, List.getElem_cons_zero, List.getElem_cons_succ]
          refine wpAnyL_ready (rs := [0]) (by kernel_rfl) (by simp) ?_
          refine AllReadyL.cons rfl (fun K hK => ?_) AllReadyL.nil
          simp only [List.getElem_toArray, List.getElem_cons_zero, List.getElem_cons_succ]
          go_simp
          replace KW := hik (KW.out.alloc (.cells #[] 31))
          replace KN := hik (KN.out.alloc (.cells #[] 31))
          refine hK.out _ _ (SA.out _ KW.out) (fun hHeld => ?_)
          clear hK K
          try simp only [Act.put, List.setIfInBounds_toArray, List.set_cons_zero, List.set_cons_succ, List.getElem_toArray, List.getElem_cons_zero, List.getElem_cons_succ]
          refine wpAnyL_take (i := 3) (v := ?_) rfl (by kernel_rfl) (by kernel_rfl) (by kernel_rfl) (fun _ _ _ h => h) (by rfl) (by kernel_rfl) (by kernel_rfl) (Or.inl ⟨by rfl, ?_⟩) (by assumption) ?_
          rotate_left 1
          · (intro w' hSw; (try dsimp only at hSw); go_simp; try with_reducible rfl)
          try simp only [Act.put, List.setIfInBounds_toArray, List.set_cons_zero, List.set_cons_succ, List.getElem_toArray, List.getElem_cons_zero, List.getElem_cons_succ]
          refine wpAnyL_ready (rs := [4]) (by kernel_rfl) (by simp) ?_
          refine AllReadyL.cons rfl (fun K hK => ?_) AllReadyL.nil
          have FN := hik (HF.out.keep KN.out)
          have g0 : U1.cell? ⟨w.heap.size + 1 + 1, 0, none⟩ = some (.int .i64 0) := HF.out.c0
          have g1 : U1.cell? ⟨w.heap.size + 1 + 1, 1, none⟩ = some (.int .i64 0) := HF.out.c1
          have f0 := HF.out.fz 0
          have f1 := HF.out.fz 1
          have ln : w.heap.size + 1 + 1 < U1.heap.size := HF.out.lt
          simp only [List.getElem_toArray, List.getElem_cons_zero, List.getElem_cons_succ]
          go_simp
          have KW6 : Hid (Chg (fun b => b = w.heap.size + 1 + 1) U1 ((((U1.setCell ⟨w.heap.size + 1 + 1, 0, none⟩ (.int .i64 0)).setCell ⟨w.heap.size + 1 + 1, 1, none⟩ (.int .i64 0)).alloc (.cells #[] 31)).drew)) := hik (((chg2_at (Chg.refl (fun b => b = w.heap.size + 1 + 1) U1) (w.heap.size + 1 + 1) (fun _ => rfl) 0 1 (.int .i64 0) (.int .i64 0)).alloc _).drew1)
          have F6 : Hid (ElB ((((U1.setCell ⟨w.heap.size + 1 + 1, 0, none⟩ (.int .i64 0)).setCell ⟨w.heap.size + 1 + 1, 1, none⟩ (.int .i64 0)).alloc (.cells #[] 31)).drew) (w.heap.size + 1 + 1) El.zr) := hik ((HF.out.set El.zr).keep (((Chg.refl nob _).alloc _).drew1))
          have Y6 := hik (rowIs_chg HY.out KW6.out (by omega))
          have G6 : Hid (Chg nob w ((((U1.setCell ⟨w.heap.size + 1 + 1, 0, none⟩ (.int .i64 0)).setCell ⟨w.heap.size + 1 + 1, 1, none⟩ (.int .i64 0)).alloc (.cells #[] 31)).drew)) := hik (((chg2_at HG.out (w.heap.size + 1 + 1) (fun l => absurd l (by omega)) 0 1 (.int .i64 0) (.int .i64 0)).alloc _).drew1)
          clear g0 g1 f0 f1 ln
          refine hK.out _ _ (SA.out _ KW6.out) (fun hHeld => ?_)
          clear hK K
          try simp only [Act.put, List.setIfInBounds_toArray, List.set_cons_zero, List.set_cons_succ, List.getElem_toArray, List.getElem_cons_zero, List.getElem_cons_succ]
          clear KW KN FN hHeld
          generalize hE : (((U1.setCell ⟨w.heap.size + 1 + 1, 0, none⟩ (.int .i64 0)).setCell ⟨w.heap.size + 1 + 1, 1, none⟩ (.int .i64 0)).alloc (.cells #[] 31)).drew = W6 at KW6 F6 Y6 G6 ⊢
          clear hE
          refine wpAnyL_ready (rs := [5]) (by kernel_rfl) (by simp) ?_
          refine AllReadyL.last rfl (by kernel_rfl) (fun K hK => ?_)
          have g0 : W6.cell? ⟨w.heap.size + 1 + 1 + 1, 0, none⟩ = some (.slice none 0 0) := Y6.out.cell (by omega)
          have f0 := Y6.out.frozen 0
          have g1 : W6.cell? ⟨w.heap.size + 1 + 1 + 1, 1, none⟩ = some (.int .i64 0) := Y6.out.cell (by omega)
          have f1 := Y6.out.frozen 1
          have g2 : W6.cell? ⟨w.heap.size + 1 + 1 + 1, 2, none⟩ = some (.string ⟨#[]⟩) := Y6.out.cell (by omega)
          have f2 := Y6.out.frozen 2
          have g3 : W6.cell? ⟨w.heap.size + 1 + 1 + 1, 3, none⟩ = some (.int .i64 0) := Y6.out.cell (by omega)
          have f3 := Y6.out.frozen 3
          have ln : w.heap.size + 1 + 1 + 1 < W6.heap.size := Y6.out.lt
          simp only [List.getElem_toArray, List.getElem_cons_zero, List.getElem_cons_succ]
          go_simp
          refine hK.out _ _ ?_
          clear hK K
          try simp only [Act.put, List.setIfInBounds_toArray, List.set_cons_zero, List.set_cons_succ, List.getElem_toArray, List.getElem_cons_zero, List.getElem_cons_succ]
          clear g0 g1 g2 g3 f0 f1 f2 f3 ln
          refine wpAnyL_take1 (i := 6) (v := ?_) rfl (by kernel_rfl) (by kernel_rfl) (by kernel_rfl) (fun _ _ _ h => h) (by rfl) (by rfl) (Or.inl ⟨by rfl, ?_⟩) ?_
          rotate_left 1
          · (intro w' hSw; (try dsimp only at hSw); go_simp; try with_reducible rfl)
          try simp only [Act.put, List.setIfInBounds_toArray, List.set_cons_zero, List.set_cons_succ, List.getElem_toArray, List.getElem_cons_zero, List.getElem_cons_succ]
          refine wpAnyL_done (by kernel_rfl) ?_ _
          have G7 := hik (chg4_set G6.out (w.heap.size + 1 + 1 + 1) (fun l => absurd l (by omega)) (.slice cs len caps) (.int .i64 (Qa i)) (.string (Qs i)) (.int .i64 (Qc i)))
          have u0 := F6.out.c0
          have u1 := F6.out.c1
          go_wp2
          exact bodyPost_ret (v := .tuple #[.slice (some ⟨U1.heap.size, 0, none⟩) 0 0, .agg #[.int .i64 El.zr.v.1, .int .i64 El.zr.v.2], .agg #[.slice cs len caps, .int .i64 (Qa i), .string (Qs i), .int .i64 (Qc i)], .int .i64 10]) (by simp [results, Tryz.results53, go_sem, u0, u1, row4_s0 Y6.out (.slice cs len caps), row4_s1 Y6.out (.slice cs len caps) (.int .i64 (Qa i)), row4_s2 Y6.out (.slice cs len caps) (.int .i64 (Qa i)) (.string (Qs i)), row4_s3 Y6.out (.slice cs len caps) (.int .i64 (Qa i)) (.string (Qs i)) (.int .i64 (Qc i))]) rfl ⟨_, _, _, _, _, _, _, by rw [HC2.out], fun h0 => absurd h0 (by rw [HC2.out]; decide), G7.out⟩
      · have hn1 : ¬ ((L i : Nat) : Int) = ((k + 2 : Nat) : Int) := by omega
        have HC2 := hik (show code = 18 by rw [HC.out, HVI.out, if_neg hLk])
        clear HC HVI
        go_wp2_with fail
        refine (QD.out _).mono ?_
        rintro e W1 ⟨rfl, hw⟩
        have hw' := hw.symm
        clear hw
        subst hw'
        go_upto_region 9 with fail
        have x0 : (wi).cell? ⟨w.heap.size + 1, 0, none⟩ = some (.slice cs len caps) := HS.out.cell (by omega)
        have x1 : (wi).cell? ⟨w.heap.size + 1, 1, none⟩ = some (.int .i64 (Qa i)) := HS.out.cell (by omega)
        have x2 : (wi).cell? ⟨w.heap.size + 1, 2, none⟩ = some (.string (Qs i)) := HS.out.cell (by omega)
        have x3 : (wi).cell? ⟨w.heap.size + 1, 3, none⟩ = some (.int .i64 (Qc i)) := HS.out.cell (by omega)
        have KN := hik ((Chg.refl nob wi).drew1)
        have KW := hik ((Chg.refl (fun b => b = w.heap.size + 1 + 1) wi).drew1)
        have SA := hik (fun (WW : World) (kW : Chg (fun b => b = w.heap.size + 1 + 1) wi WW) => (show (WW.cell? ⟨w.heap.size + 1, 0, none⟩ = some (.slice cs len caps) ∧ WW.cell? ⟨w.heap.size + 1, 1, none⟩ = some (.int .i64 (Qa i)) ∧ WW.cell? ⟨w.heap.size + 1, 2, none⟩ = some (.string (Qs i)) ∧ WW.cell? ⟨w.heap.size + 1, 3, none⟩ = some (.int .i64 (Qc i))) from ⟨kW.seeP x0 (by omega), kW.seeP x1 (by omega), kW.seeP x2 (by omega), kW.seeP x3 (by omega)⟩))
        refine wp_regionL (L := 5) (S := fun w' => w'.cell? ⟨w.heap.size + 1, 0, none⟩ = some (.slice cs len caps) ∧ w'.cell? ⟨w.heap.size + 1, 1, none⟩ = some (.int .i64 (Qa i)) ∧ w'.cell? ⟨w.heap.size + 1, 2, none⟩ = some (.string (Qs i)) ∧ w'.cell? ⟨w.heap.size + 1, 3, none⟩ = some (.int .i64 (Qc i))) (by kernel_rfl) (SA.out _ KW.out) (fun hHeld => ?_)
        refine wpAnyL_take (i := 1) (v := ?_) rfl (by kernel_rfl) (by kernel_rfl) (by kernel_rfl) (fun _ _ _ h => h) (by rfl) (by kernel_rfl) (by kernel_rfl) (Or.inl ⟨by rfl, ?_⟩) (by assumption) ?_
        rotate_left 1
        · (intro w' hSw; (try dsimp only at hSw); go_simp; try with_reducible rfl)
        try simp only [Act.put, List.setIfInBounds_toArray, List.set_cons_zero, List.set_cons_succ, List.getElem_toArray, List.getElem_cons_zero, List.getElem_cons_succ]
        refine wpAnyL_take (i := 2) (v := ?_) rfl (by kernel_rfl) (by kernel_rfl) (by kernel_rfl) (fun _ _ _ h => h) (by rfl) (by kernel_rfl) (by kernel_rfl) (Or.inl ⟨by rfl, ?_⟩) (by assumption) ?_
        rotate_left 1
        · (intro w' hSw; (try dsimp only at hSw); go_simp; try with_reducible rfl)
        try simp only [Act.put, List.setIfInBounds_toArray, List.set_cons_zero, List.set_cons_succ, List.getElem_toArray, List.getElem_cons_zero, List.getElem_cons_succ]
        refine wpAnyL_ready (rs := [0]) (by kernel_rfl) (by simp) ?_
        refine AllReadyL.cons rfl (fun K hK => ?_) AllReadyL.nil
        simp only [List.getElem_toArray, List.getElem_cons_zero, List.getElem_cons_succ]
        go_simp
        replace KW := hik (KW.out.alloc (.cells #[] 31))
        replace KN := hik (KN.out.alloc (.cells #[] 31))
        refine hK.out _ _ (SA.out _ KW.out) (fun hHeld => ?_)
        clear hK K
        try simp only [Act.put, List.setIfInBounds_toArray, List.set_cons_zero, List.set_cons_succ, List.getElem_toArray, List.getElem_cons_zero, List.getElem_cons_succ]
        refine wpAnyL_take (i := 3) (v := ?_) rfl (by kernel_rfl) (by kernel_rfl) (by kernel_rfl) (fun _ _ _ h => h) (by rfl) (by kernel_rfl) (by kernel_rfl) (Or.inl ⟨by rfl, ?_⟩) (by assumption) ?_
        rotate_left 1
        · (intro w' hSw; (try dsimp only at hSw); go_simp; try with_reducible rfl)
        try simp only [Act.put, List.setIfInBounds_toArray, List.set_cons_zero, List.set_cons_succ, List.getElem_toArray, List.getElem_cons_zero, List.getElem_cons_succ]
        refine wpAnyL_ready (rs := [4]) (by kernel_rfl) (by simp) ?_
        refine AllReadyL.cons rfl (fun K hK => ?_) AllReadyL.nil
        have FN := hik (HF.out.keep KN.out)
        have g0 : wi.cell? ⟨w.heap.size + 1 + 1, 0, none⟩ = some (.int .i64 0) := HF.out.c0
        have g1 : wi.cell? ⟨w.heap.size + 1 + 1, 1, none⟩ = some (.int .i64 0) := HF.out.c1
        have f0 := HF.out.fz 0
        have f1 := HF.out.fz 1
        have ln : w.heap.size + 1 + 1 < wi.heap.size := HF.out.lt
        simp only [List.getElem_toArray, List.getElem_cons_zero, List.getElem_cons_succ]
        go_simp
        have KW6 : Hid (Chg (fun b => b = w.heap.size + 1 + 1) wi ((((wi.setCell ⟨w.heap.size + 1 + 1, 0, none⟩ (.int .i64 0)).setCell ⟨w.heap.size + 1 + 1, 1, none⟩ (.int .i64 0)).alloc (.cells #[] 31)).drew)) := hik (((chg2_at (Chg.refl (fun b => b = w.heap.size + 1 + 1) wi) (w.heap.size + 1 + 1) (fun _ => rfl) 0 1 (.int .i64 0) (.int .i64 0)).alloc _).drew1)
        have F6 : Hid (ElB ((((wi.setCell ⟨w.heap.size + 1 + 1, 0, none⟩ (.int .i64 0)).setCell ⟨w.heap.size + 1 + 1, 1, none⟩ (.int .i64 0)).alloc (.cells #[] 31)).drew) (w.heap.size + 1 + 1) El.zr) := hik ((HF.out.set El.zr).keep (((Chg.refl nob _).alloc _).drew1))
        have Y6 := hik (rowIs_chg HY.out KW6.out (by omega))
        have G6 : Hid (Chg nob w ((((wi.setCell ⟨w.heap.size + 1 + 1, 0, none⟩ (.int .i64 0)).setCell ⟨w.heap.size + 1 + 1, 1, none⟩ (.int .i64 0)).alloc (.cells #[] 31)).drew)) := hik (((chg2_at HG.out (w.heap.size + 1 + 1) (fun l => absurd l (by omega)) 0 1 (.int .i64 0) (.int .i64 0)).alloc _).drew1)
        clear g0 g1 f0 f1 ln
        refine hK.out _ _ (SA.out _ KW6.out) (fun hHeld => ?_)
        clear hK K
        try simp only [Act.put, List.setIfInBounds_toArray, List.set_cons_zero, List.set_cons_succ, List.getElem_toArray, List.getElem_cons_zero, List.getElem_cons_succ]
        clear KW KN FN hHeld
        generalize hE : (((wi.setCell ⟨w.heap.size + 1 + 1, 0, none⟩ (.int .i64 0)).setCell ⟨w.heap.size + 1 + 1, 1, none⟩ (.int .i64 0)).alloc (.cells #[] 31)).drew = W6 at KW6 F6 Y6 G6 ⊢
        clear hE
        refine wpAnyL_ready (rs := [5]) (by kernel_rfl) (by simp) ?_
        refine AllReadyL.last rfl (by kernel_rfl) (fun K hK => ?_)
        have g0 : W6.cell? ⟨w.heap.size + 1 + 1 + 1, 0, none⟩ = some (.slice none 0 0) := Y6.out.cell (by omega)
        have f0 := Y6.out.frozen 0
        have g1 : W6.cell? ⟨w.heap.size + 1 + 1 + 1, 1, none⟩ = some (.int .i64 0) := Y6.out.cell (by omega)
        have f1 := Y6.out.frozen 1
        have g2 : W6.cell? ⟨w.heap.size + 1 + 1 + 1, 2, none⟩ = some (.string ⟨#[]⟩) := Y6.out.cell (by omega)
        have f2 := Y6.out.frozen 2
        have g3 : W6.cell? ⟨w.heap.size + 1 + 1 + 1, 3, none⟩ = some (.int .i64 0) := Y6.out.cell (by omega)
        have f3 := Y6.out.frozen 3
        have ln : w.heap.size + 1 + 1 + 1 < W6.heap.size := Y6.out.lt
        simp only [List.getElem_toArray, List.getElem_cons_zero, List.getElem_cons_succ]
        go_simp
        refine hK.out _ _ ?_
        clear hK K
        try simp only [Act.put, List.setIfInBounds_toArray, List.set_cons_zero, List.set_cons_succ, List.getElem_toArray, List.getElem_cons_zero, List.getElem_cons_succ]
        clear g0 g1 g2 g3 f0 f1 f2 f3 ln
        refine wpAnyL_take1 (i := 6) (v := ?_) rfl (by kernel_rfl) (by kernel_rfl) (by kernel_rfl) (fun _ _ _ h => h) (by rfl) (by rfl) (Or.inl ⟨by rfl, ?_⟩) ?_
        rotate_left 1
        · (intro w' hSw; (try dsimp only at hSw); go_simp; try with_reducible rfl)
        try simp only [Act.put, List.setIfInBounds_toArray, List.set_cons_zero, List.set_cons_succ, List.getElem_toArray, List.getElem_cons_zero, List.getElem_cons_succ]
        refine wpAnyL_done (by kernel_rfl) ?_ _
        have G7 := hik (chg4_set G6.out (w.heap.size + 1 + 1 + 1) (fun l => absurd l (by omega)) (.slice cs len caps) (.int .i64 (Qa i)) (.string (Qs i)) (.int .i64 (Qc i)))
        have u0 := F6.out.c0
        have u1 := F6.out.c1
        go_wp2
        exact bodyPost_ret (v := .tuple #[.slice (some ⟨wi.heap.size, 0, none⟩) 0 0, .agg #[.int .i64 El.zr.v.1, .int .i64 El.zr.v.2], .agg #[.slice cs len caps, .int .i64 (Qa i), .string (Qs i), .int .i64 (Qc i)], .int .i64 18]) (by simp [results, Tryz.results53, go_sem, u0, u1, row4_s0 Y6.out (.slice cs len caps), row4_s1 Y6.out (.slice cs len caps) (.int .i64 (Qa i)), row4_s2 Y6.out (.slice cs len caps) (.int .i64 (Qa i)) (.string (Qs i)), row4_s3 Y6.out (.slice cs len caps) (.int .i64 (Qa i)) (.string (Qs i)) (.int .i64 (Qc i))]) rfl ⟨_, _, _, _, _, _, _, by rw [HC2.out], fun h0 => absurd h0 (by rw [HC2.out]; decide), G7.out⟩
    · obtain rfl : i = m := by omega
      have hii : ¬ (i : Int) < (i : Int) := by omega
      have HC2 := hik (show code = 0 by rw [HC.out, show n' = 0 by omega, hV0.out])
      obtain ⟨cv, capv, ev, hle, ov⟩ := OwnE.of_owns HW.out
      subst ev
      have O9 := hik ov
      clear hle ov HW HC
      go_upto_region 17 with fail
      have x0 : (wi).cell? ⟨w.heap.size + 1, 0, none⟩ = some (.slice cs len caps) := HS.out.cell (by omega)
      have x1 : (wi).cell? ⟨w.heap.size + 1, 1, none⟩ = some (.int .i64 (Qa i)) := HS.out.cell (by omega)
      have x2 : (wi).cell? ⟨w.heap.size + 1, 2, none⟩ = some (.string (Qs i)) := HS.out.cell (by omega)
      have x3 : (wi).cell? ⟨w.heap.size + 1, 3, none⟩ = some (.int .i64 (Qc i)) := HS.out.cell (by omega)
      have z0 := HE.out.c0
      have z1 := HE.out.c1
      have KW := hik ((Chg.refl (fun b => b = w.heap.size + 1 + 1) wi).drew1)
      have SA := hik (fun (WW : World) (kW : Chg (fun b => b = w.heap.size + 1 + 1) wi WW) => (show (WW.cell? ⟨w.heap.size + 1, 0, none⟩ = some (.slice cs len caps) ∧ WW.cell? ⟨w.heap.size + 1, 1, none⟩ = some (.int .i64 (Qa i)) ∧ WW.cell? ⟨w.heap.size + 1, 2, none⟩ = some (.string (Qs i)) ∧ WW.cell? ⟨w.heap.size + 1, 3, none⟩ = some (.int .i64 (Qc i)) ∧ WW.cell? ⟨w.heap.size, 0, none⟩ = some (.int .i64 (X i).v.1) ∧ WW.cell? ⟨w.heap.size, 1, none⟩ = some (.int .i64 (X i).v.2)) from ⟨kW.seeP x0 (by omega), kW.seeP x1 (by omega), kW.seeP x2 (by omega), kW.seeP x3 (by omega), kW.seeP z0 (by omega), kW.seeP z1 (by omega)⟩))
      refine wp_regionL (L := 5) (S := fun w' => w'.cell? ⟨w.heap.size + 1, 0, none⟩ = some (.slice cs len caps) ∧ w'.cell? ⟨w.heap.size + 1, 1, none⟩ = some (.int .i64 (Qa i)) ∧ w'.cell? ⟨w.heap.size + 1, 2, none⟩ = some (.string (Qs i)) ∧ w'.cell? ⟨w.heap.size + 1, 3, none⟩ = some (.int .i64 (Qc i)) ∧ w'.cell? ⟨w.heap.size, 0, none⟩ = some (.int .i64 (X i).v.1) ∧ w'.cell? ⟨w.heap.size, 1, none⟩ = some (.int .i64 (X i).v.2)) (by kernel_rfl) (SA.out _ KW.out) (fun hHeld => ?_)
      refine wpAnyL_take (i := 0) (v := ?_) rfl (by kernel_rfl) (by kernel_rfl) (by kernel_rfl) (fun _ _ _ h => h) (by rfl) (by kernel_rfl) (by kernel_rfl) (Or.inl ⟨by rfl, ?_⟩) (by assumption) ?_
      rotate_left 1
      · (intro w' hSw; (try dsimp only at hSw); go_simp; try with_reducible rfl)
      try simp only [Act.put, List.setIfInBounds_toArray, List.set_cons_zero, List.set_cons_succ, List.getElem_toArray, List.getElem_cons_zero, List.getElem_cons_succ]
      refine wpAnyL_take (i := 1) (v := ?_) rfl (by kernel_rfl) (by kernel_rfl) (by kernel_rfl) (fun _ _ _ h => h) (by rfl) (by kernel_rfl) (by kernel_rfl) (Or.inl ⟨by rfl, ?_⟩) (by assumption) ?_
      rotate_left 1
      · (intro w' hSw; (try dsimp only at hSw); go_simp; try with_reducible rfl)
      try simp only [Act.put, List.setIfInBounds_toArray, List.set_cons_zero, List.set_cons_succ, List.getElem_toArray, List.getElem_cons_zero, List.getElem_cons_succ]
      refine wpAnyL_take (i := 2) (v := ?_) rfl (by kernel_rfl) (by kernel_rfl) (by kernel_rfl) (fun _ _ _ h => h) (by rfl) (by kernel_rfl) (by kernel_rfl) (Or.inl ⟨by rfl, ?_⟩) (by assumption) ?_
      rotate_left 1
      · (intro w' hSw; (try dsimp only at hSw); go_simp; try with_reducible rfl)
      try simp only [Act.put, List.setIfInBounds_toArray, List.set_cons_zero, List.set_cons_succ, List.getElem_toArray, List.getElem_cons_zero, List.getElem_cons_succ]
      refine wpAnyL_take (i := 3) (v := ?_) rfl (by kernel_rfl) (by kernel_rfl) (by kernel_rfl) (fun _ _ _ h => h) (by rfl) (by kernel_rfl) (by kernel_rfl) (Or.inl ⟨by rfl, ?_⟩) (by assumption) ?_
      rotate_left 1
      · (intro w' hSw; (try dsimp only at hSw); go_simp; try with_reducible rfl)
      try simp only [Act.put, List.setIfInBounds_toArray, List.set_cons_zero, List.set_cons_succ, List.getElem_toArray, List.getElem_cons_zero, List.getElem_cons_succ]
      refine wpAnyL_ready (rs := [4]) (by kernel_rfl) (by simp) ?_
      refine AllReadyL.cons rfl (fun K hK => ?_) AllReadyL.nil
      have g0 : wi.cell? ⟨w.heap.size + 1 + 1, 0, none⟩ = some (.int .i64 0) := HF.out.c0
      have g1 : wi.cell? ⟨w.heap.size + 1 + 1, 1, none⟩ = some (.int .i64 0) := HF.out.c1
      have f0 := HF.out.fz 0
      have f1 := HF.out.fz 1
      have ln : w.heap.size + 1 + 1 < wi.heap.size := HF.out.lt
      simp only [List.getElem_toArray, List.getElem_cons_zero, List.getElem_cons_succ]
      go_simp
      have KW6 : Hid (Chg (fun b => b = w.heap.size + 1 + 1) wi (((wi.setCell ⟨w.heap.size + 1 + 1, 0, none⟩ (.int .i64 (X i).v.1)).setCell ⟨w.heap.size + 1 + 1, 1, none⟩ (.int .i64 (X i).v.2)).drew)) := hik ((chg2_at (Chg.refl (fun b => b = w.heap.size + 1 + 1) wi) (w.heap.size + 1 + 1) (fun _ => rfl) 0 1 (.int .i64 (X i).v.1) (.int .i64 (X i).v.2)).drew1)
      have F6 : Hid (ElB (((wi.setCell ⟨w.heap.size + 1 + 1, 0, none⟩ (.int .i64 (X i).v.1)).setCell ⟨w.heap.size + 1 + 1, 1, none⟩ (.int .i64 (X i).v.2)).drew) (w.heap.size + 1 + 1) (X i)) := hik ((HF.out.set (X i)).keep ((Chg.refl nob _).drew1))
      have Y6 := hik (rowIs_chg HY.out KW6.out (by omega))
      have O6 := hik (O9.out.chg KW6.out (fun b hb _ hp => by have := HSZ.out; omega))
      have G6 : Hid (Chg nob w (((wi.setCell ⟨w.heap.size + 1 + 1, 0, none⟩ (.int .i64 (X i).v.1)).setCell ⟨w.heap.size + 1 + 1, 1, none⟩ (.int .i64 (X i).v.2)).drew)) := hik ((chg2_at HG.out (w.heap.size + 1 + 1) (fun l => absurd l (by omega)) 0 1 (.int .i64 (X i).v.1) (.int .i64 (X i).v.2)).drew1)
      clear g0 g1 f0 f1 ln
      refine hK.out _ _ (SA.out _ KW6.out) (fun hHeld => ?_)
      clear hK K
      try simp only [Act.put, List.setIfInBounds_toArray, List.set_cons_zero, List.set_cons_succ, List.getElem_toArray, List.getElem_cons_zero, List.getElem_cons_succ]
      clear KW hHeld
      generalize hE : ((wi.setCell ⟨w.heap.size + 1 + 1, 0, none⟩ (.int .i64 (X i).v.1)).setCell ⟨w.heap.size + 1 + 1, 1, none⟩ (.int .i64 (X i).v.2)).drew = W6 at KW6 F6 Y6 G6 O6 ⊢
      clear hE
      refine wpAnyL_ready (rs := [5]) (by kernel_rfl) (by simp) ?_
      refine AllReadyL.last rfl (by kernel_rfl) (fun K hK => ?_)
      have g0 : W6.cell? ⟨w.heap.size + 1 + 1 + 1, 0, none⟩ = some (.slice none 0 0) := Y6.out.cell (by omega)
      have f0 := Y6.out.frozen 0
      have g1 : W6.cell? ⟨w.heap.size + 1 + 1 + 1, 1, none⟩ = some (.int .i64 0) := Y6.out.cell (by omega)
      have f1 := Y6.out.frozen 1
      have g2 : W6.cell? ⟨w.heap.size + 1 + 1 + 1, 2, none⟩ = some (.string ⟨#[]⟩) := Y6.out.cell (by omega)
      have f2 := Y6.out.frozen 2
      have g3 : W6.cell? ⟨w.heap.size + 1 + 1 + 1, 3, none⟩ = some (.int .i64 0) := Y6.out.cell (by omega)
      have f3 := Y6.out.frozen 3
      have ln : w.heap.size + 1 + 1 + 1 < W6.heap.size := Y6.out.lt
      simp only [List.getElem_toArray, List.getElem_cons_zero, List.getElem_cons_succ]
      go_simp
      refine hK.out _ _ ?_
      clear hK K
      try simp only [Act.put, List.setIfInBounds_toArray, List.set_cons_zero, List.set_cons_succ, List.getElem_toArray, List.getElem_cons_zero, List.getElem_cons_succ]
      clear g0 g1 g2 g3 f0 f1 f2 f3 ln
      refine wpAnyL_take1 (i := 6) (v := ?_) rfl (by kernel_rfl) (by kernel_rfl) (by kernel_rfl) (fun _ _ _ h => h) (by rfl) (by rfl) (Or.inl ⟨by rfl, ?_⟩) ?_
      rotate_left 1
      · (intro w' hSw; (try dsimp only at hSw); go_simp; try with_reducible rfl)
      try simp only [Act.put, List.setIfInBounds_toArray, List.set_cons_zero, List.set_cons_succ, List.getElem_toArray, List.getElem_cons_zero, List.getElem_cons_succ]
      refine wpAnyL_done (by kernel_rfl) ?_ _
      have C7 := hik (chg4_set (Chg.refl (fun b => b = w.heap.size + 1 + 1 + 1) W6) (w.heap.size + 1 + 1 + 1) (fun _ => rfl) (.slice cs len caps) (.int .i64 (Qa i)) (.string (Qs i)) (.int .i64 (Qc i)))
      have O7 := hik (O6.out.chg C7.out (fun b hb _ hp => by have := HSZ.out; omega))
      have G7 := hik (chg4_set G6.out (w.heap.size + 1 + 1 + 1) (fun l => absurd l (by omega)) (.slice cs len caps) (.int .i64 (Qa i)) (.string (Qs i)) (.int .i64 (Qc i)))
      have u0 := F6.out.c0
      have u1 := F6.out.c1
      go_wp2
      exact bodyPost_ret (v := .tuple #[.slice cv i capv, .agg #[.int .i64 (X i).v.1, .int .i64 (X i).v.2], .agg #[.slice cs len caps, .int .i64 (Qa i), .string (Qs i), .int .i64 (Qc i)], .int .i64 0]) (by simp [results, Tryz.results53, go_sem, u0, u1, row4_s0 Y6.out (.slice cs len caps), row4_s1 Y6.out (.slice cs len caps) (.int .i64 (Qa i)), row4_s2 Y6.out (.slice cs len caps) (.int .i64 (Qa i)) (.string (Qs i)), row4_s3 Y6.out (.slice cs len caps) (.int .i64 (Qa i)) (.string (Qs i)) (.int .i64 (Qc i))]) rfl ⟨_, _, _, _, _, _, _, by rw [HC2.out], fun _ => ⟨rfl, O7.out.low (by have := HSZ.out; omega), rfl, rfl, rfl, rfl⟩, G7.out⟩

set_option maxHeartbeats 4000000 in
theorem sVerL_any (k : Int) (c : Option Addr) (m cap : Nat) (vars : Int) (hne : ¬ (m : Int) = vars) (x : El) (cs : Option Addr) (len caps : Nat) (at' : Int) (st : ByteArray) (ct : Int) (w : World) (code : Int) (HC2 : Hid (code = 18)) (R : Nat → El) (X : El) (a : Int) (s : ByteArray) (c9 : Int) :
    Calls Tryz.prog 53 #[.int .i64 k, .agg #[.int .i64 x.v.1, .int .i64 x.v.2], .slice c m cap, .int .i64 vars, .agg #[.slice cs len caps, .int .i64 at', .string st, .int .i64 ct]] w fun e w' => VfAns w m cs len caps code R X a s c9 e w' := by
  have HS : Hid ((((((w.alloc (.cells #[.int .i64 x.v.1, .int .i64 x.v.2] 31)).alloc (.cells #[.slice cs len caps, .int .i64 at', .string st, .int .i64 ct] 28)).alloc (.cells #[.int .i64 0, .int .i64 0] 31)).alloc (.cells #[.slice none 0 0, .int .i64 0, .string ⟨#[]⟩, .int .i64 0] 28))).rowIs (w.heap.size + 1) 28 4 (pv4 (.slice cs len caps) (.int .i64 at') (.string st) (.int .i64 ct))) := hik (by simpa using World.rowIs.alloc (World.rowIs.alloc (row4_new (w.alloc (.cells #[.int .i64 x.v.1, .int .i64 x.v.2] 31)) (.slice cs len caps) (.int .i64 at') (.string st) (.int .i64 ct) 28) (.cells #[.int .i64 0, .int .i64 0] 31)) (.cells #[.slice none 0 0, .int .i64 0, .string ⟨#[]⟩, .int .i64 0] 28))
  have HF : Hid (ElB (((((w.alloc (.cells #[.int .i64 x.v.1, .int .i64 x.v.2] 31)).alloc (.cells #[.slice cs len caps, .int .i64 at', .string st, .int .i64 ct] 28)).alloc (.cells #[.int .i64 0, .int .i64 0] 31)).alloc (.cells #[.slice none 0 0, .int .i64 0, .string ⟨#[]⟩, .int .i64 0] 28))) (w.heap.size + 1 + 1) El.zr) := hik (by simpa using (ElB.zero ((w.alloc (.cells #[.int .i64 x.v.1, .int .i64 x.v.2] 31)).alloc (.cells #[.slice cs len caps, .int .i64 at', .string st, .int .i64 ct] 28))).keep ((Chg.refl nob _).alloc (.cells #[.slice none 0 0, .int .i64 0, .string ⟨#[]⟩, .int .i64 0] 28)))
  have HY : Hid ((((((w.alloc (.cells #[.int .i64 x.v.1, .int .i64 x.v.2] 31)).alloc (.cells #[.slice cs len caps, .int .i64 at', .string st, .int .i64 ct] 28)).alloc (.cells #[.int .i64 0, .int .i64 0] 31)).alloc (.cells #[.slice none 0 0, .int .i64 0, .string ⟨#[]⟩, .int .i64 0] 28))).rowIs (w.heap.size + 1 + 1 + 1) 28 4 (pv4 (.slice none 0 0) (.int .i64 0) (.string ⟨#[]⟩) (.int .i64 0))) := hik (by simpa using row4_new (((w.alloc (.cells #[.int .i64 x.v.1, .int .i64 x.v.2] 31)).alloc (.cells #[.slice cs len caps, .int .i64 at', .string st, .int .i64 ct] 28)).alloc (.cells #[.int .i64 0, .int .i64 0] 31)) (.slice none 0 0) (.int .i64 0) (.string ⟨#[]⟩) (.int .i64 0) 28)
  have HG := hik (((((Chg.refl nob w).alloc (.cells #[.int .i64 x.v.1, .int .i64 x.v.2] 31)).alloc (.cells #[.slice cs len caps, .int .i64 at', .string st, .int .i64 ct] 28)).alloc (.cells #[.int .i64 0, .int .i64 0] 31)).alloc (.cells #[.slice none 0 0, .int .i64 0, .string ⟨#[]⟩, .int .i64 0] 28))
  go_enter Tryz.func53, Tryz.ntmps53
  go_upto_region 1 with fail
  generalize hE : ((((w.alloc (.cells #[.int .i64 x.v.1, .int .i64 x.v.2] 31)).alloc (.cells #[.slice cs len caps, .int .i64 at', .string st, .int .i64 ct] 28)).alloc (.cells #[.int .i64 0, .int .i64 0] 31)).alloc (.cells #[.slice none 0 0, .int .i64 0, .string ⟨#[]⟩, .int .i64 0] 28)) = W0 at HS HF HY HG ⊢
  clear hE
  go_upto_region 2 with fail
  have x0 : (W0).cell? ⟨w.heap.size + 1, 0, none⟩ = some (.slice cs len caps) := HS.out.cell (by omega)
  have x1 : (W0).cell? ⟨w.heap.size + 1, 1, none⟩ = some (.int .i64 at') := HS.out.cell (by omega)
  have x2 : (W0).cell? ⟨w.heap.size + 1, 2, none⟩ = some (.string st) := HS.out.cell (by omega)
  have x3 : (W0).cell? ⟨w.heap.size + 1, 3, none⟩ = some (.int .i64 ct) := HS.out.cell (by omega)
  have KN := hik ((Chg.refl nob W0).drew1)
  have KW := hik ((Chg.refl (fun b => b = w.heap.size + 1 + 1) W0).drew1)
  have SA := hik (fun (WW : World) (kW : Chg (fun b => b = w.heap.size + 1 + 1) W0 WW) => (show (WW.cell? ⟨w.heap.size + 1, 0, none⟩ = some (.slice cs len caps) ∧ WW.cell? ⟨w.heap.size + 1, 1, none⟩ = some (.int .i64 at') ∧ WW.cell? ⟨w.heap.size + 1, 2, none⟩ = some (.string st) ∧ WW.cell? ⟨w.heap.size + 1, 3, none⟩ = some (.int .i64 ct)) from ⟨kW.seeP x0 (by omega), kW.seeP x1 (by omega), kW.seeP x2 (by omega), kW.seeP x3 (by omega)⟩))
  refine wp_regionL (L := 5) (S := fun w' => w'.cell? ⟨w.heap.size + 1, 0, none⟩ = some (.slice cs len caps) ∧ w'.cell? ⟨w.heap.size + 1, 1, none⟩ = some (.int .i64 at') ∧ w'.cell? ⟨w.heap.size + 1, 2, none⟩ = some (.string st) ∧ w'.cell? ⟨w.heap.size + 1, 3, none⟩ = some (.int .i64 ct)) (by kernel_rfl) (SA.out _ KW.out) (fun hHeld => ?_)
  refine wpAnyL_take (i := 1) (v := ?_) rfl (by kernel_rfl) (by kernel_rfl) (by kernel_rfl) (fun _ _ _ h => h) (by rfl) (by kernel_rfl) (by kernel_rfl) (Or.inl ⟨by rfl, ?_⟩) (by assumption) ?_
  rotate_left 1
  · (intro w' hSw; (try dsimp only at hSw); go_simp; try with_reducible rfl)
  try simp only [Act.put, List.setIfInBounds_toArray, List.set_cons_zero, List.set_cons_succ, List.getElem_toArray, List.getElem_cons_zero, List.getElem_cons_succ]
  refine wpAnyL_take (i := 2) (v := ?_) rfl (by kernel_rfl) (by kernel_rfl) (by kernel_rfl) (fun _ _ _ h => h) (by rfl) (by kernel_rfl) (by kernel_rfl) (Or.inl ⟨by rfl, ?_⟩) (by assumption) ?_
  rotate_left 1
  · (intro w' hSw; (try dsimp only at hSw); go_simp; try with_reducible rfl)
  try simp only [Act.put, List.setIfInBounds_toArray, List.set_cons_zero, List.set_cons_succ, List.getElem_toArray, List.getElem_cons_zero, List.getElem_cons_succ]
  refine wpAnyL_ready (rs := [0]) (by kernel_rfl) (by simp) ?_
  refine AllReadyL.cons rfl (fun K hK => ?_) AllReadyL.nil
  simp only [List.getElem_toArray, List.getElem_cons_zero, List.getElem_cons_succ]
  go_simp
  replace KW := hik (KW.out.alloc (.cells #[] 31))
  replace KN := hik (KN.out.alloc (.cells #[] 31))
  refine hK.out _ _ (SA.out _ KW.out) (fun hHeld => ?_)
  clear hK K
  try simp only [Act.put, List.setIfInBounds_toArray, List.set_cons_zero, List.set_cons_succ, List.getElem_toArray, List.getElem_cons_zero, List.getElem_cons_succ]
  refine wpAnyL_take (i := 3) (v := ?_) rfl (by kernel_rfl) (by kernel_rfl) (by kernel_rfl) (fun _ _ _ h => h) (by rfl) (by kernel_rfl) (by kernel_rfl) (Or.inl ⟨by rfl, ?_⟩) (by assumption) ?_
  rotate_left 1
  · (intro w' hSw; (try dsimp only at hSw); go_simp; try with_reducible rfl)
  try simp only [Act.put, List.setIfInBounds_toArray, List.set_cons_zero, List.set_cons_succ, List.getElem_toArray, List.getElem_cons_zero, List.getElem_cons_succ]
  refine wpAnyL_ready (rs := [4]) (by kernel_rfl) (by simp) ?_
  refine AllReadyL.cons rfl (fun K hK => ?_) AllReadyL.nil
  have FN := hik (HF.out.keep KN.out)
  have g0 : W0.cell? ⟨w.heap.size + 1 + 1, 0, none⟩ = some (.int .i64 0) := HF.out.c0
  have g1 : W0.cell? ⟨w.heap.size + 1 + 1, 1, none⟩ = some (.int .i64 0) := HF.out.c1
  have f0 := HF.out.fz 0
  have f1 := HF.out.fz 1
  have ln : w.heap.size + 1 + 1 < W0.heap.size := HF.out.lt
  simp only [List.getElem_toArray, List.getElem_cons_zero, List.getElem_cons_succ]
  go_simp
  have KW6 : Hid (Chg (fun b => b = w.heap.size + 1 + 1) W0 ((((W0.setCell ⟨w.heap.size + 1 + 1, 0, none⟩ (.int .i64 0)).setCell ⟨w.heap.size + 1 + 1, 1, none⟩ (.int .i64 0)).alloc (.cells #[] 31)).drew)) := hik (((chg2_at (Chg.refl (fun b => b = w.heap.size + 1 + 1) W0) (w.heap.size + 1 + 1) (fun _ => rfl) 0 1 (.int .i64 0) (.int .i64 0)).alloc _).drew1)
  have F6 : Hid (ElB ((((W0.setCell ⟨w.heap.size + 1 + 1, 0, none⟩ (.int .i64 0)).setCell ⟨w.heap.size + 1 + 1, 1, none⟩ (.int .i64 0)).alloc (.cells #[] 31)).drew) (w.heap.size + 1 + 1) El.zr) := hik ((HF.out.set El.zr).keep (((Chg.refl nob _).alloc _).drew1))
  have Y6 := hik (rowIs_chg HY.out KW6.out (by omega))
  have G6 : Hid (Chg nob w ((((W0.setCell ⟨w.heap.size + 1 + 1, 0, none⟩ (.int .i64 0)).setCell ⟨w.heap.size + 1 + 1, 1, none⟩ (.int .i64 0)).alloc (.cells #[] 31)).drew)) := hik (((chg2_at HG.out (w.heap.size + 1 + 1) (fun l => absurd l (by omega)) 0 1 (.int .i64 0) (.int .i64 0)).alloc _).drew1)
  clear g0 g1 f0 f1 ln
  refine hK.out _ _ (SA.out _ KW6.out) (fun hHeld => ?_)
  clear hK K
  try simp only [Act.put, List.setIfInBounds_toArray, List.set_cons_zero, List.set_cons_succ, List.getElem_toArray, List.getElem_cons_zero, List.getElem_cons_succ]
  clear KW KN FN hHeld
  generalize hE : (((W0.setCell ⟨w.heap.size + 1 + 1, 0, none⟩ (.int .i64 0)).setCell ⟨w.heap.size + 1 + 1, 1, none⟩ (.int .i64 0)).alloc (.cells #[] 31)).drew = W6 at KW6 F6 Y6 G6 ⊢
  clear hE
  refine wpAnyL_ready (rs := [5]) (by kernel_rfl) (by simp) ?_
  refine AllReadyL.last rfl (by kernel_rfl) (fun K hK => ?_)
  have g0 : W6.cell? ⟨w.heap.size + 1 + 1 + 1, 0, none⟩ = some (.slice none 0 0) := Y6.out.cell (by omega)
  have f0 := Y6.out.frozen 0
  have g1 : W6.cell? ⟨w.heap.size + 1 + 1 + 1, 1, none⟩ = some (.int .i64 0) := Y6.out.cell (by omega)
  have f1 := Y6.out.frozen 1
  have g2 : W6.cell? ⟨w.heap.size + 1 + 1 + 1, 2, none⟩ = some (.string ⟨#[]⟩) := Y6.out.cell (by omega)
  have f2 := Y6.out.frozen 2
  have g3 : W6.cell? ⟨w.heap.size + 1 + 1 + 1, 3, none⟩ = some (.int .i64 0) := Y6.out.cell (by omega)
  have f3 := Y6.out.frozen 3
  have ln : w.heap.size + 1 + 1 + 1 < W6.heap.size := Y6.out.lt
  simp only [List.getElem_toArray, List.getElem_cons_zero, List.getElem_cons_succ]
  go_simp
  refine hK.out _ _ ?_
  clear hK K
  try simp only [Act.put, List.setIfInBounds_toArray, List.set_cons_zero, List.set_cons_succ, List.getElem_toArray, List.getElem_cons_zero, List.getElem_cons_succ]
  clear g0 g1 g2 g3 f0 f1 f2 f3 ln
  refine wpAnyL_take1 (i := 6) (v := ?_) rfl (by kernel_rfl) (by kernel_rfl) (by kernel_rfl) (fun _ _ _ h => h) (by rfl) (by rfl) (Or.inl ⟨by rfl, ?_⟩) ?_
  rotate_left 1
  · (intro w' hSw; (try dsimp only at hSw); go_simp; try with_reducible rfl)
  try simp only [Act.put, List.setIfInBounds_toArray, List.set_cons_zero, List.set_cons_succ, List.getElem_toArray, List.getElem_cons_zero, List.getElem_cons_succ]
  refine wpAnyL_done (by kernel_rfl) ?_ _
  have G7 := hik (chg4_set G6.out (w.heap.size + 1 + 1 + 1) (fun l => absurd l (by omega)) (.slice cs len caps) (.int .i64 at') (.string st) (.int .i64 ct))
  have u0 := F6.out.c0
  have u1 := F6.out.c1
  go_wp2
  exact bodyPost_ret (v := .tuple #[.slice (some ⟨W0.heap.size, 0, none⟩) 0 0, .agg #[.int .i64 El.zr.v.1, .int .i64 El.zr.v.2], .agg #[.slice cs len caps, .int .i64 at', .string st, .int .i64 ct], .int .i64 18]) (by simp [results, Tryz.results53, go_sem, u0, u1, row4_s0 Y6.out (.slice cs len caps), row4_s1 Y6.out (.slice cs len caps) (.int .i64 at'), row4_s2 Y6.out (.slice cs len caps) (.int .i64 at') (.string st), row4_s3 Y6.out (.slice cs len caps) (.int .i64 at') (.string st) (.int .i64 ct)]) rfl ⟨_, _, _, _, _, _, _, by rw [HC2.out], fun h0 => absurd h0 (by rw [HC2.out]; decide), G7.out⟩

theorem sVer_any {k : Nat} (hk : k = 1 ∨ k = 2) (c : Option Addr) (m cap : Nat) (vars : Int) (hv : vars ≤ 6) (L : Nat → Nat) (U : Nat → Nat → El) (x : El) (cs : Option Addr) (len caps : Nat) (f g : Nat → Int) (at' : Int) (st : ByteArray) (ct : Int) (w : World) (h : Hid (RowsL w c m L U)) (hL : Hid (∀ i, i < m → L i ≤ 8)) (hs : Hid (PairV w cs len f g)) (hl : len ≤ 64) (hok : okP f g len = true) (hst : st.size = 32) (a0 : 0 ≤ at') (a1 : at' + 6 ≤ 1000000) :
    Calls Tryz.prog 53 #[.int .i64 (k : Int), .agg #[.int .i64 x.v.1, .int .i64 x.v.2], .slice c m cap, .int .i64 vars, .agg #[.slice cs len caps, .int .i64 at', .string st, .int .i64 ct]] w fun e w' =>
      VfAns w m cs len caps (if (m : Int) = vars then vcd f g len (k + 2) L U ⟨x, at', st, ct⟩ 0 m else 18) (vpt f g len (k + 2) U ⟨x, at', st, ct⟩) (vst f g len (k + 2) U ⟨x, at', st, ct⟩ m).x (vst f g len (k + 2) U ⟨x, at', st, ct⟩ m).a (vst f g len (k + 2) U ⟨x, at', st, ct⟩ m).s (vst f g len (k + 2) U ⟨x, at', st, ct⟩ m).c e w' := by
  by_cases hm : (m : Int) = vars
  · subst hm
    rw [if_pos rfl]
    exact sVerT_any hk c m cap (by omega) L U (fun i => (vst f g len (k + 2) U ⟨x, at', st, ct⟩ i).x) (vpt f g len (k + 2) U ⟨x, at', st, ct⟩) (fun i => (vst f g len (k + 2) U ⟨x, at', st, ct⟩ i).a) (fun i => (vst f g len (k + 2) U ⟨x, at', st, ct⟩ i).s) (fun i => (vst f g len (k + 2) U ⟨x, at', st, ct⟩ i).c) _ (vcd f g len (k + 2) L U ⟨x, at', st, ct⟩) cs len caps f g w h hL hs hl
      (hik (fun i n => rfl)) (hik (fun i => by cases i <;> rfl)) (hik rfl) (hik (fun i => rfl)) (hik (fun i => rfl)) (hik (fun i => rfl)) (hik (fun i => rfl)) (hik (fun i => vsr_v hok (k + 2) (U i) _)) (hik (fun i => vst_size hst i)) (hik (fun i hi => by
        have q := vst_a (f := f) (g := g) (len := len) (D := k + 2) (U := U) (q := ⟨x, at', st, ct⟩) i
        have q2 : at' ≤ (vst f g len (k + 2) U ⟨x, at', st, ct⟩ i).a ∧ (vst f g len (k + 2) U ⟨x, at', st, ct⟩ i).a ≤ at' + i := q
        omega))
  · rw [if_neg hm]
    exact sVerL_any (k : Int) c m cap vars hm x cs len caps at' st ct w 18 (hik rfl) _ _ _ _ _

end Go.Proofs.YtgiefpipflcbgadGreatDoor
