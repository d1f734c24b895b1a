/- Several texts in one: What the model's check of a proof of a sum answers: a contract. Conditions: rounds of right elements that can be read, a right source with draws left. · What the model's SumVerify answers: a contract. Conditions: lists that can be read, of at most 2 to the 40. -/
import Derived.Test.YtccgjbdjbgefiaaGreatDoorBzay
import Derived.Test.YtccgjbdjbgefiaaGreatDoorBzaw
import Derived.Test.YtccgjbdjbgefiaaGreatDoorBzam
import Derived.Test.YtccgjbdjbgefiaaGreatDoorBzah
namespace Go.Proofs.YtccgjbdjbgefiaaGreatDoor
open Go.ChangeShapes Go.WideShapes Go.ChangeAt Go.RowKit
set_option linter.unusedVariables false
set_option maxRecDepth 100000
set_option linter.unusedSimpArgs false

/-- Lists of right elements, each of its own length. -/
def RowsL (w : World) (c : Option Addr) (n : Nat) (L : Nat → Nat) (U : Nat → Nat → El) : Prop :=
  ∀ i, i < n → ∃ (xb xo : Nat) (A : Option Addr) (C : Nat), c = some ⟨xb, xo, none⟩ ∧ xb < w.heap.size ∧ w.cell? ⟨xb, xo + i, none⟩ = some (.slice A (L i) C) ∧ PairE w A (L i) (U i)
theorem RowsL.keep {w w' : World} {c : Option Addr} {n : Nat} {L : Nat → Nat} {U : Nat → Nat → El} (h : RowsL w c n L U) (k : Chg nob w w') : RowsL w' c n L U := by
  intro i hi
  obtain ⟨xb, xo, A, C, e, l, hc, hp⟩ := h i hi
  exact ⟨xb, xo, A, C, e, Nat.lt_of_lt_of_le l k.size, k.see hc, PairE.keep hp k⟩
theorem RowsL.of {w : World} {c : Option Addr} {n : Nat} {A : Nat → Option Addr} {L C : Nat → Nat} {f g : Nat → Nat → Int} (h : RowsV w c n A L C f g) (ho : ∀ i, i < n → okP (f i) (g i) (L i) = true) : RowsL w c n L (fun i => elF (f i) (g i)) := by
  intro i hi
  obtain ⟨xb, xo, e, l, hc, hp⟩ := h i hi
  exact ⟨xb, xo, A i, C i, e, l, hc, PairE.of hp (ho i hi)⟩

/-- What a check answers: point, claim and source at code 0. -/
def VfAns (w : World) (m : Nat) (cs : Option Addr) (len caps : Nat) (code : Int) (R : Nat → El) (X : El) (a : Int) (s : ByteArray) (c : Int) (e : Ending) (w' : World) : Prop :=
  ∃ (cP : Option Addr) (n' capP : Nat) (x' : El) (a' : Int) (s' : ByteArray) (c' : Int), e = .returned (.tuple #[.slice cP n' capP, .agg #[.int .i64 x'.v.1, .int .i64 x'.v.2], .agg #[.slice cs len caps, .int .i64 a', .string s', .int .i64 c'], .int .i64 code]) ∧ (code = 0 → n' = m ∧ OwnE w' w.heap.size cP m (cA R) (cB R) ∧ x' = X ∧ a' = a ∧ s' = s ∧ c' = c) ∧ Chg nob w w'

set_option maxHeartbeats 4000000 in
theorem sVerT_any {k : Nat} (hk : k = 1 ∨ k = 2) (c : Option Addr) (m cap : Nat) (hm : m ≤ 6) (L : Nat → Nat) (U : Nat → Nat → El) (X R : Nat → El) (Qa : Nat → Int) (Qs : Nat → ByteArray) (Qc : Nat → Int) (code : Int) (vd : Nat → Nat → Int) (cs : Option Addr) (len caps : Nat) (f g : Nat → Int) (w : World) (h : Hid (RowsL w c m L U)) (hL : Hid (∀ i, i < m → L i ≤ 8)) (hs : Hid (PairV w cs len f g)) (hl : len ≤ 64)
    (hV : Hid (∀ i n, vd i (n + 1) = if L i = k + 2 then (if (El.ad (U i 0) (U i 1)).v = (X i).v then vd (i + 1) n else 10) else 18)) (hV0 : Hid (∀ i, vd i 0 = 0)) (hcd : Hid (code = vd 0 m))
    (hX : Hid (∀ i, X (i + 1) = El.lag (U i) (R i) (k + 2))) (hS : Hid (∀ i, Qs (i + 1) = abS (Qs i) (etx (cA (U i)) (cB (U i)) (k + 2)))) (hA : Hid (∀ i, Qa (i + 1) = dnA len (Qa i) 1)) (hC : Hid (∀ i, Qc (i + 1) = dnC len 0 1))
    (hD : Hid (∀ i, drE f len (Qa i) (Qs (i + 1)) 0 0 = (R i).v.1 ∧ drF g len (Qa i) (Qs (i + 1)) 0 0 = (R i).v.2)) (hZ : Hid (∀ i, (Qs i).size = 32)) (hB : Hid (∀ i, i ≤ 6 → 0 ≤ Qa i ∧ Qa i ≤ 1000000)) :
    Calls Tryz.prog 27 #[.int .i64 (k : Int), .agg #[.int .i64 (X 0).v.1, .int .i64 (X 0).v.2], .slice c m cap, .int .i64 (m : Int), .agg #[.slice cs len caps, .int .i64 (Qa 0), .string (Qs 0), .int .i64 (Qc 0)]] w fun e w' => VfAns w m cs len caps code R (X m) (Qa m) (Qs m) (Qc m) e w' := by
  obtain ⟨i0, hi, hz0, hz1, hz2⟩ := info_parts infoExt
  have HI := hik hi
  have HZ0 := hik hz0
  have HZ1 := hik hz1
  have HZ2 := hik hz2
  clear hi hz0 hz1 hz2
  have hk2 : k ≤ 2 := by rcases hk with rfl | rfl <;> omega
  obtain ⟨d, hd⟩ : ∃ d, d = k + 1 := ⟨_, rfl⟩
  have HD := hik hd
  have hd3 : d ≤ 3 := by omega
  have hwd : IntKind.i64.wrap ((k : Int) + 1) = (d : Int) := by rw [IntKind.wrap_i64]; omega
  have hwe : IntKind.i64.wrap ((d : Int) + 1) = ((k + 2 : Nat) : Int) := by rw [IntKind.wrap_i64]; omega
  have QD := hik (fun (w : World) => sDeg_any (k : Int) (d : Int) hwd w)
  clear hk hd
  have E0 := hik ((ElB.new w (X 0)).keep ((((Chg.refl nob _).alloc (.cells #[.slice cs len caps, .int .i64 (Qa 0), .string (Qs 0), .int .i64 (Qc 0)] 33)).alloc (.cells #[.int .i64 0, .int .i64 0] 31)).alloc (.cells #[.slice none 0 0, .int .i64 0, .string ⟨#[]⟩, .int .i64 0] 33)))
  have S0 : Hid ((((((w.alloc (.cells #[.int .i64 (X 0).v.1, .int .i64 (X 0).v.2] 31)).alloc (.cells #[.slice cs len caps, .int .i64 (Qa 0), .string (Qs 0), .int .i64 (Qc 0)] 33)).alloc (.cells #[.int .i64 0, .int .i64 0] 31)).alloc (.cells #[.slice none 0 0, .int .i64 0, .string ⟨#[]⟩, .int .i64 0] 33))).rowIs (w.heap.size + 1) 33 4 (pv4 (.slice cs len caps) (.int .i64 (Qa 0)) (.string (Qs 0)) (.int .i64 (Qc 0)))) := hik (by simpa using World.rowIs.alloc (World.rowIs.alloc (row4_new (w.alloc (.cells #[.int .i64 (X 0).v.1, .int .i64 (X 0).v.2] 31)) (.slice cs len caps) (.int .i64 (Qa 0)) (.string (Qs 0)) (.int .i64 (Qc 0)) 33) (.cells #[.int .i64 0, .int .i64 0] 31)) (.cells #[.slice none 0 0, .int .i64 0, .string ⟨#[]⟩, .int .i64 0] 33))
  have F0 : Hid (ElB (((((w.alloc (.cells #[.int .i64 (X 0).v.1, .int .i64 (X 0).v.2] 31)).alloc (.cells #[.slice cs len caps, .int .i64 (Qa 0), .string (Qs 0), .int .i64 (Qc 0)] 33)).alloc (.cells #[.int .i64 0, .int .i64 0] 31)).alloc (.cells #[.slice none 0 0, .int .i64 0, .string ⟨#[]⟩, .int .i64 0] 33))) (w.heap.size + 1 + 1) El.zr) := hik (by simpa using (ElB.zero ((w.alloc (.cells #[.int .i64 (X 0).v.1, .int .i64 (X 0).v.2] 31)).alloc (.cells #[.slice cs len caps, .int .i64 (Qa 0), .string (Qs 0), .int .i64 (Qc 0)] 33))).keep ((Chg.refl nob _).alloc (.cells #[.slice none 0 0, .int .i64 0, .string ⟨#[]⟩, .int .i64 0] 33)))
  have Y0 : Hid ((((((w.alloc (.cells #[.int .i64 (X 0).v.1, .int .i64 (X 0).v.2] 31)).alloc (.cells #[.slice cs len caps, .int .i64 (Qa 0), .string (Qs 0), .int .i64 (Qc 0)] 33)).alloc (.cells #[.int .i64 0, .int .i64 0] 31)).alloc (.cells #[.slice none 0 0, .int .i64 0, .string ⟨#[]⟩, .int .i64 0] 33))).rowIs (w.heap.size + 1 + 1 + 1) 33 4 (pv4 (.slice none 0 0) (.int .i64 0) (.string ⟨#[]⟩) (.int .i64 0))) := hik (by simpa using row4_new (((w.alloc (.cells #[.int .i64 (X 0).v.1, .int .i64 (X 0).v.2] 31)).alloc (.cells #[.slice cs len caps, .int .i64 (Qa 0), .string (Qs 0), .int .i64 (Qc 0)] 33)).alloc (.cells #[.int .i64 0, .int .i64 0] 31)) (.slice none 0 0) (.int .i64 0) (.string ⟨#[]⟩) (.int .i64 0) 33)
  have G0 := hik (((((Chg.refl nob w).alloc (.cells #[.int .i64 (X 0).v.1, .int .i64 (X 0).v.2] 31)).alloc (.cells #[.slice cs len caps, .int .i64 (Qa 0), .string (Qs 0), .int .i64 (Qc 0)] 33)).alloc (.cells #[.int .i64 0, .int .i64 0] 31)).alloc (.cells #[.slice none 0 0, .int .i64 0, .string ⟨#[]⟩, .int .i64 0] 33))
  have HSZ : Hid (((((w.alloc (.cells #[.int .i64 (X 0).v.1, .int .i64 (X 0).v.2] 31)).alloc (.cells #[.slice cs len caps, .int .i64 (Qa 0), .string (Qs 0), .int .i64 (Qc 0)] 33)).alloc (.cells #[.int .i64 0, .int .i64 0] 31)).alloc (.cells #[.slice none 0 0, .int .i64 0, .string ⟨#[]⟩, .int .i64 0] 33)).heap.size = w.heap.size + 4) := hik (by simp)
  go_enter Tryz.func27, Tryz.ntmps27
  go_upto_region 1 with fail
  generalize hE : ((((w.alloc (.cells #[.int .i64 (X 0).v.1, .int .i64 (X 0).v.2] 31)).alloc (.cells #[.slice cs len caps, .int .i64 (Qa 0), .string (Qs 0), .int .i64 (Qc 0)] 33)).alloc (.cells #[.int .i64 0, .int .i64 0] 31)).alloc (.cells #[.slice none 0 0, .int .i64 0, .string ⟨#[]⟩, .int .i64 0] 33)) = W0 at E0 S0 F0 Y0 G0 HSZ ⊢
  clear hE
  go_wp2
  go_loopw [14, 15] (fun u j W => ∃ i n' : Nat, i + n' = m ∧ j = .int .i64 (i : Int) ∧ Hid (code = vd i n') ∧ Hid (W.ownsRow W0.heap.size 31 2 u i ((List.range (i * 2)).map (pf (cA R) (cB R)))) ∧ Hid (ElB W w.heap.size (X i)) ∧ Hid (W.rowIs (w.heap.size + 1) 33 4 (pv4 (.slice cs len caps) (.int .i64 (Qa i)) (.string (Qs i)) (.int .i64 (Qc i)))) ∧ Hid (ElB W (w.heap.size + 1 + 1) El.zr) ∧ Hid (W.rowIs (w.heap.size + 1 + 1 + 1) 33 4 (pv4 (.slice none 0 0) (.int .i64 0) (.string ⟨#[]⟩) (.int .i64 0))) ∧ Hid (Chg nob w W)) (fun _ j _ => m - (intOf j).toNat)
  case atStart => exact ⟨0, m, by omega, rfl, hcd, hik (flNone W0 W0.heap.size 31 2 (Nat.le_refl _)), hik (E0.out.keep ((Chg.refl nob _).alloc _)), hik (World.rowIs.alloc S0.out _), hik (F0.out.keep ((Chg.refl nob _).alloc _)), hik (World.rowIs.alloc Y0.out _), hik (G0.out.alloc _)⟩
  case round =>
    clear E0 S0 F0 Y0 G0 hcd
    obtain ⟨i, n', hin, rfl, HC, HW, HE, HS, HF, HY, HG⟩ := hrel
    rename World => wi
    by_cases hlt : i < m
    · obtain ⟨n'', rfl⟩ : ∃ n'', n' = n'' + 1 := ⟨n' - 1, by omega⟩
      have hi1 : (i : Int) < (m : Int) := by omega
      have hi0 : (0 : Int) ≤ (i : Int) := by omega
      obtain ⟨xb, xo, A, Cp, ec, hxb, hc, hP⟩ := (h.out.keep HG.out) i hlt
      subst ec
      have PU := hik hP
      obtain ⟨xb0, xo0, A', Cp', ec0, _, hc0, hP0⟩ := h.out i hlt
      cases ec0
      have PU0 := hik (show PairE w A (L i) (U i) by have q := HG.out.see hc0; rw [hc] at q; cases q; exact hP0)
      clear hc0 hP0
      have HL8 := hik (hL.out i hlt)
      have HVI := hik (hV.out i n'')
      clear hP
      by_cases hLk : L i = k + 2
      · rw [hLk] at hc PU PU0
        go_wp2_with fail
        refine (QD.out _).mono ?_
        rintro e W1 ⟨rfl, hw⟩
        have hw' := hw.symm
        clear hw
        subst hw'
        go_upto_region 10 with fail
        obtain ⟨ab, ao, ea, hab, _, _⟩ := PairE.at_ PU.out (show 0 < k + 2 by omega)
        subst ea
        have u0 : wi.cell? ⟨ab, ao, none⟩ = some (.int .i64 (U i 0).v.1) := by have q := PairE.c0 PU.out (i := 0) (by omega); simpa using q
        have u1 : wi.cell? ⟨ab, ao + 1, none⟩ = some (.int .i64 (U i 0).v.2) := by have q := PairE.c1 PU.out (i := 0) (by omega); simpa using q
        have y0 : wi.cell? ⟨ab, ao + 2, none⟩ = some (.int .i64 (U i 1).v.1) := by have q := PairE.c0 PU.out (i := 1) (by omega); simpa using q
        have y1 : wi.cell? ⟨ab, ao + 2 + 1, none⟩ = some (.int .i64 (U i 1).v.2) := by have q := PairE.c1 PU.out (i := 1) (by omega); simpa using q
        have z0 := HE.out.c0
        have z1 := HE.out.c1
        have hq0 : (0 : Int) < (k : Int) + 2 := by omega
        have hq1 : (1 : Int) < (k : Int) + 2 := by omega
        by_cases hsum : (El.ad (U i 0) (U i 1)).v = (X i).v
        · have hs1 : (El.ad (U i 0) (U i 1)).v.1 = (X i).v.1 := by rw [hsum]
          have hs2 : (El.ad (U i 0) (U i 1)).v.2 = (X i).v.2 := by rw [hsum]
          have KW := hik ((Chg.refl nob wi).drew1)
          have SA := hik (fun (WW : World) (kW : Chg nob wi WW) => (show (WW.cell? ⟨ab, ao, none⟩ = some (.int .i64 (U i 0).v.1) ∧ WW.cell? ⟨ab, ao + 1, none⟩ = some (.int .i64 (U i 0).v.2) ∧ WW.cell? ⟨ab, ao + 2, none⟩ = some (.int .i64 (U i 1).v.1) ∧ WW.cell? ⟨ab, ao + 2 + 1, none⟩ = some (.int .i64 (U i 1).v.2) ∧ WW.cell? ⟨w.heap.size, 0, none⟩ = some (.int .i64 (X i).v.1) ∧ WW.cell? ⟨w.heap.size, 1, none⟩ = some (.int .i64 (X i).v.2)) from ⟨kW.see u0, kW.see u1, kW.see y0, kW.see y1, kW.see z0, kW.see z1⟩))
          refine wp_region_held_drew (S := fun w' => w'.cell? ⟨ab, ao, none⟩ = some (.int .i64 (U i 0).v.1) ∧ w'.cell? ⟨ab, ao + 1, none⟩ = some (.int .i64 (U i 0).v.2) ∧ w'.cell? ⟨ab, ao + 2, none⟩ = some (.int .i64 (U i 1).v.1) ∧ w'.cell? ⟨ab, ao + 2 + 1, none⟩ = some (.int .i64 (U i 1).v.2) ∧ w'.cell? ⟨w.heap.size, 0, none⟩ = some (.int .i64 (X i).v.1) ∧ w'.cell? ⟨w.heap.size, 1, none⟩ = some (.int .i64 (X i).v.2)) (by kernel_rfl) ⟨u0, u1, y0, y1, z0, z1⟩ (fun hHeld => ?_)
          refine wpAnyH_take (i := 0) (v := ?_) rfl (by kernel_rfl) (by kernel_rfl) (by kernel_rfl) (fun _ _ _ h => h) (Or.inl ⟨by rfl, ?_⟩) (by assumption) ?_
          rotate_left 1
          · (intro w' hSw; (try dsimp only at hSw); go_simp; try with_reducible rfl)
          try simp only [Act.put, List.setIfInBounds_toArray, List.set_cons_zero, List.set_cons_succ, List.getElem_toArray, List.getElem_cons_zero, List.getElem_cons_succ]
          refine wpAnyH_take (i := 1) (v := ?_) rfl (by kernel_rfl) (by kernel_rfl) (by kernel_rfl) (fun _ _ _ h => h) (Or.inl ⟨by rfl, ?_⟩) (by assumption) ?_
          rotate_left 1
          · (intro w' hSw; (try dsimp only at hSw); go_simp; try with_reducible rfl)
          try simp only [Act.put, List.setIfInBounds_toArray, List.set_cons_zero, List.set_cons_succ, List.getElem_toArray, List.getElem_cons_zero, List.getElem_cons_succ]
          refine wpAnyH_take (i := 2) (v := ?_) rfl (by kernel_rfl) (by kernel_rfl) (by kernel_rfl) (fun _ _ _ h => h) (Or.inl ⟨by rfl, ?_⟩) (by assumption) ?_
          rotate_left 1
          · (intro w' hSw; (try dsimp only at hSw); go_simp; try with_reducible rfl)
          try simp only [Act.put, List.setIfInBounds_toArray, List.set_cons_zero, List.set_cons_succ, List.getElem_toArray, List.getElem_cons_zero, List.getElem_cons_succ]
          refine wpAnyH_take (i := 3) (v := ?_) rfl (by kernel_rfl) (by kernel_rfl) (by kernel_rfl) (fun _ _ _ h => h) (Or.inl ⟨by rfl, ?_⟩) (by assumption) ?_
          rotate_left 1
          · (intro w' hSw; (try dsimp only at hSw); go_simp; try with_reducible rfl)
          try simp only [Act.put, List.setIfInBounds_toArray, List.set_cons_zero, List.set_cons_succ, List.getElem_toArray, List.getElem_cons_zero, List.getElem_cons_succ]
          refine wpAnyH_take (i := 4) (v := ?_) rfl (by kernel_rfl) (by kernel_rfl) (by kernel_rfl) (fun _ _ _ h => h) (Or.inl ⟨by rfl, ?_⟩) (by assumption) ?_
          rotate_left 1
          · (intro w' hSw; (try dsimp only at hSw); go_simp; try with_reducible rfl)
          try simp only [Act.put, List.setIfInBounds_toArray, List.set_cons_zero, List.set_cons_succ, List.getElem_toArray, List.getElem_cons_zero, List.getElem_cons_succ]
          refine wpAnyH_take (i := 5) (v := ?_) rfl (by kernel_rfl) (by kernel_rfl) (by kernel_rfl) (fun _ _ _ h => h) (Or.inl ⟨by rfl, ?_⟩) (by assumption) ?_
          rotate_left 1
          · (intro w' hSw; (try dsimp only at hSw); go_simp; try with_reducible rfl)
          try simp only [Act.put, List.setIfInBounds_toArray, List.set_cons_zero, List.set_cons_succ, List.getElem_toArray, List.getElem_cons_zero, List.getElem_cons_succ]
          refine wpAnyH_take (i := 7) (v := ?_) rfl (by kernel_rfl) (by kernel_rfl) (by kernel_rfl) (fun _ _ _ h => h) (Or.inl ⟨by rfl, ?_⟩) (by assumption) ?_
          rotate_left 1
          · (intro w' hSw; (try dsimp only at hSw); go_simp; try with_reducible rfl)
          try simp only [Act.put, List.setIfInBounds_toArray, List.set_cons_zero, List.set_cons_succ, List.getElem_toArray, List.getElem_cons_zero, List.getElem_cons_succ]
          refine wpAnyH_ready (rs := [6]) (by kernel_rfl) (by simp) ?_
          refine AllReadyH.cons rfl (fun K hK => ?_) AllReadyH.nil
          refine stepL_callN 39 #[.tmp 47, .tmp 50] #[31, 31] (by rfl) (by rfl) #[.agg #[.int .i64 (U i 0).v.1, .int .i64 (U i 0).v.2], .agg #[.int .i64 (U i 1).v.1, .int .i64 (U i 1).v.2]] (by simp only [List.map_toArray, List.map_cons, List.map_nil] <;> rfl) (run_go Tryz.func39 (by kernel_rfl) (by kernel_rfl) _ _) (sAd_el (U i 0) (U i 1) _) ?_
          rintro e U1 ⟨he, kk⟩
          refine ⟨_, he, ?_⟩
          replace KW := hik (KW.out.trans kk)
          refine hK.out _ _ (SA.out _ KW.out) (fun hHeld => ?_)
          clear hK K
          try simp only [Act.put, List.setIfInBounds_toArray, List.set_cons_zero, List.set_cons_succ, List.getElem_toArray, List.getElem_cons_zero, List.getElem_cons_succ]
          clear he kk
          refine wpAnyH_take (i := 8) (v := .bool false) rfl (by kernel_rfl) (by kernel_rfl) (by kernel_rfl) (fun _ _ _ h => h) (Or.inl ⟨by rfl, ?_⟩) (by assumption) ?_
          · (intro w' hSw; (try dsimp only at hSw); go_simp; try rfl)
          try simp only [Act.put, List.setIfInBounds_toArray, List.set_cons_zero, List.set_cons_succ, List.getElem_toArray, List.getElem_cons_zero, List.getElem_cons_succ]
          refine wpAnyH_done (by kernel_rfl) ?_ _
          replace HW := hik (flKeep HW.out KW.out)
          replace HE := hik (HE.out.keep KW.out)
          replace HS := hik (rowIs_keep HS.out KW.out)
          replace HF := hik (HF.out.keep KW.out)
          replace HY := hik (rowIs_keep HY.out KW.out)
          replace HG := hik (HG.out.trans KW.out)
          replace PU := hik (PairE.keep PU.out KW.out)
          clear SA hHeld KW u0 u1 y0 y1 z0 z1 hc
          have HC2 := hik (show code = vd (i + 1) n'' by rw [HC.out, HVI.out, if_pos hLk, if_pos hsum])
          clear HC HVI
          have zS : w.heap.size + 1 < U1.heap.size := HS.out.lt
          have zS2 : w.heap.size < U1.heap.size := by omega
          have x0 : (U1).cell? ⟨w.heap.size + 1, 0, none⟩ = some (.slice cs len caps) := HS.out.cell (by omega)
          have x1 : (U1).cell? ⟨w.heap.size + 1, 1, none⟩ = some (.int .i64 (Qa i)) := HS.out.cell (by omega)
          have x2 : (U1).cell? ⟨w.heap.size + 1, 2, none⟩ = some (.string (Qs i)) := HS.out.cell (by omega)
          have x3 : (U1).cell? ⟨w.heap.size + 1, 3, none⟩ = some (.int .i64 (Qc i)) := HS.out.cell (by omega)
          go_wp2_with fail
          refine (sExts_any cs len caps (Qa i) (Qs i) (Qc i) (some ⟨ab, ao, none⟩) (k + 2) Cp (cA (U i)) (cB (U i)) _ PU (by omega) (hik (okP_el _ _)) (hZ.out i)).mono ?_
          rintro e W2 ⟨he, k2⟩
          rw [← hS.out i] at he
          subst he
          replace HW := hik (flKeep HW.out k2)
          replace HE := hik (HE.out.keep k2)
          replace HS := hik (rowIs_keep HS.out k2)
          replace HF := hik (HF.out.keep k2)
          replace HY := hik (rowIs_keep HY.out k2)
          replace HG := hik (HG.out.trans k2)
          replace PU := hik (PairE.keep PU.out k2)
          clear k2 x0 x1 x2 x3 zS zS2
          have zS : w.heap.size + 1 < W2.heap.size := HS.out.lt
          have zS2 : w.heap.size < W2.heap.size := by omega
          have x0 : (W2).cell? ⟨w.heap.size + 1, 0, none⟩ = some (.slice cs len caps) := HS.out.cell (by omega)
          have x1 : (W2).cell? ⟨w.heap.size + 1, 1, none⟩ = some (.int .i64 (Qa i)) := HS.out.cell (by omega)
          have x2 : (W2).cell? ⟨w.heap.size + 1, 2, none⟩ = some (.string (Qs i)) := HS.out.cell (by omega)
          have x3 : (W2).cell? ⟨w.heap.size + 1, 3, none⟩ = some (.int .i64 (Qc i)) := HS.out.cell (by omega)
          have v0 := HS.out.frozen 0
          have v1 := HS.out.frozen 1
          have v2 := HS.out.frozen 2
          have v3 := HS.out.frozen 3
          go_upto_region 13 with fail
          have C3 := hik (chg4_set (Chg.refl (fun b => b = w.heap.size + 1) W2) (w.heap.size + 1) (fun _ => rfl) (.slice cs len caps) (.int .i64 (Qa i)) (.string (Qs (i + 1))) (.int .i64 0))
          have S3 := hik (row4_set HS.out (.slice cs len caps) (.int .i64 (Qa i)) (.string (Qs (i + 1))) (.int .i64 0))
          have G3 := hik (chg4_set HG.out (w.heap.size + 1) (fun l => absurd l (by omega)) (.slice cs len caps) (.int .i64 (Qa i)) (.string (Qs (i + 1))) (.int .i64 0))
          clear x0 x1 x2 x3 v0 v1 v2 v3 zS zS2 HS HG
          generalize hE : (((W2.setCell ⟨w.heap.size + 1, 0, none⟩ (.slice cs len caps)).setCell ⟨w.heap.size + 1, 1, none⟩ (.int .i64 (Qa i))).setCell ⟨w.heap.size + 1, 2, none⟩ (.string (Qs (i + 1)))).setCell ⟨w.heap.size + 1, 3, none⟩ (.int .i64 0) = W3 at C3 S3 G3 ⊢
          clear hE
          replace HW := hik (owns_far HW.out C3.out (fun b hb e => by have := HSZ.out; omega))
          replace HE := hik (HE.out.chg C3.out (by omega))
          replace HF := hik (HF.out.chg C3.out (by omega))
          replace HY := hik (rowIs_chg HY.out C3.out (by omega))
          replace PU := hik (show PairE W3 (some ⟨ab, ao, none⟩) (k + 2) (U i) from PU0.out.keep G3.out)
          clear C3
          have zS : w.heap.size + 1 < W3.heap.size := S3.out.lt
          have zS2 : w.heap.size < W3.heap.size := by omega
          have x0 : (W3).cell? ⟨w.heap.size + 1, 0, none⟩ = some (.slice cs len caps) := S3.out.cell (by omega)
          have x1 : (W3).cell? ⟨w.heap.size + 1, 1, none⟩ = some (.int .i64 (Qa i)) := S3.out.cell (by omega)
          have x2 : (W3).cell? ⟨w.heap.size + 1, 2, none⟩ = some (.string (Qs (i + 1))) := S3.out.cell (by omega)
          have x3 : (W3).cell? ⟨w.heap.size + 1, 3, none⟩ = some (.int .i64 0) := S3.out.cell (by omega)
          go_wp2_with fail
          refine (sDraw_any cs len caps (Qa i) (Qs (i + 1)) 0 f g _ (hik (hs.out.keep G3.out)) hl (hZ.out (i + 1)) (hB.out i (by omega)).1 (hB.out i (by omega)).2 (by omega) (by omega)).mono ?_
          rintro e W4 ⟨he, k4⟩
          rw [← hA.out i, ← hC.out i, (hD.out i).1, (hD.out i).2] at he
          subst he
          replace HW := hik (flKeep HW.out k4)
          replace HE := hik (HE.out.keep k4)
          replace S3 := hik (rowIs_keep S3.out k4)
          replace HF := hik (HF.out.keep k4)
          replace HY := hik (rowIs_keep HY.out k4)
          replace G3 := hik (G3.out.trans k4)
          clear k4 x0 x1 x2 x3 zS zS2
          have zS : w.heap.size + 1 < W4.heap.size := S3.out.lt
          have zS2 : w.heap.size < W4.heap.size := by omega
          have x0 : (W4).cell? ⟨w.heap.size + 1, 0, none⟩ = some (.slice cs len caps) := S3.out.cell (by omega)
          have x1 : (W4).cell? ⟨w.heap.size + 1, 1, none⟩ = some (.int .i64 (Qa i)) := S3.out.cell (by omega)
          have x2 : (W4).cell? ⟨w.heap.size + 1, 2, none⟩ = some (.string (Qs (i + 1))) := S3.out.cell (by omega)
          have x3 : (W4).cell? ⟨w.heap.size + 1, 3, none⟩ = some (.int .i64 0) := S3.out.cell (by omega)
          have v0 := S3.out.frozen 0
          have v1 := S3.out.frozen 1
          have v2 := S3.out.frozen 2
          have v3 := S3.out.frozen 3
          go_upto_region 15 with fail
          have C5 := hik (((chg4_set (Chg.refl (fun b => b = w.heap.size + 1) W4) (w.heap.size + 1) (fun _ => rfl) (.slice cs len caps) (.int .i64 (Qa (i + 1))) (.string (Qs (i + 1))) (.int .i64 (Qc (i + 1)))).alloc (.cells #[.slice cs len caps, .int .i64 (Qa (i + 1)), .string (Qs (i + 1)), .int .i64 (Qc (i + 1))] 33)).alloc (.cells #[.int .i64 (R i).v.1, .int .i64 (R i).v.2] 31))
          have S5 := hik (World.rowIs.alloc (World.rowIs.alloc (row4_set S3.out (.slice cs len caps) (.int .i64 (Qa (i + 1))) (.string (Qs (i + 1))) (.int .i64 (Qc (i + 1)))) (.cells #[.slice cs len caps, .int .i64 (Qa (i + 1)), .string (Qs (i + 1)), .int .i64 (Qc (i + 1))] 33)) (.cells #[.int .i64 (R i).v.1, .int .i64 (R i).v.2] 31))
          have G5 := hik (((chg4_set G3.out (w.heap.size + 1) (fun l => absurd l (by omega)) (.slice cs len caps) (.int .i64 (Qa (i + 1))) (.string (Qs (i + 1))) (.int .i64 (Qc (i + 1)))).alloc (.cells #[.slice cs len caps, .int .i64 (Qa (i + 1)), .string (Qs (i + 1)), .int .i64 (Qc (i + 1))] 33)).alloc (.cells #[.int .i64 (R i).v.1, .int .i64 (R i).v.2] 31))
          have X5 : Hid (ElB ((((((W4.setCell ⟨w.heap.size + 1, 0, none⟩ (.slice cs len caps)).setCell ⟨w.heap.size + 1, 1, none⟩ (.int .i64 (Qa (i + 1)))).setCell ⟨w.heap.size + 1, 2, none⟩ (.string (Qs (i + 1)))).setCell ⟨w.heap.size + 1, 3, none⟩ (.int .i64 (Qc (i + 1)))).alloc (.cells #[.slice cs len caps, .int .i64 (Qa (i + 1)), .string (Qs (i + 1)), .int .i64 (Qc (i + 1))] 33)).alloc (.cells #[.int .i64 (R i).v.1, .int .i64 (R i).v.2] 31)) (W4.heap.size + 1) (R i)) := hik (by simpa using ElB.new (((((W4.setCell ⟨w.heap.size + 1, 0, none⟩ (.slice cs len caps)).setCell ⟨w.heap.size + 1, 1, none⟩ (.int .i64 (Qa (i + 1)))).setCell ⟨w.heap.size + 1, 2, none⟩ (.string (Qs (i + 1)))).setCell ⟨w.heap.size + 1, 3, none⟩ (.int .i64 (Qc (i + 1)))).alloc (.cells #[.slice cs len caps, .int .i64 (Qa (i + 1)), .string (Qs (i + 1)), .int .i64 (Qc (i + 1))] 33)) (R i))
          clear x0 x1 x2 x3 v0 v1 v2 v3 zS zS2 S3 G3
          generalize hE : (((((W4.setCell ⟨w.heap.size + 1, 0, none⟩ (.slice cs len caps)).setCell ⟨w.heap.size + 1, 1, none⟩ (.int .i64 (Qa (i + 1)))).setCell ⟨w.heap.size + 1, 2, none⟩ (.string (Qs (i + 1)))).setCell ⟨w.heap.size + 1, 3, none⟩ (.int .i64 (Qc (i + 1)))).alloc (.cells #[.slice cs len caps, .int .i64 (Qa (i + 1)), .string (Qs (i + 1)), .int .i64 (Qc (i + 1))] 33)).alloc (.cells #[.int .i64 (R i).v.1, .int .i64 (R i).v.2] 31) = W5 at C5 S5 G5 X5 ⊢
          clear hE
          have hrb := hik (show w.heap.size + 1 + 1 + 1 < W4.heap.size from HY.out.lt)
          replace HW := hik (owns_far HW.out C5.out (fun b hb e => by have := HSZ.out; omega))
          replace HE := hik (HE.out.chg C5.out (by omega))
          replace HF := hik (HF.out.chg C5.out (by omega))
          replace HY := hik (rowIs_chg HY.out C5.out (by omega))
          have P5 := hik (show PairE W5 (some ⟨ab, ao, none⟩) (k + 2) (U i) from PU0.out.keep G5.out)
          have hX5 := hik (show w.heap.size + 1 + 1 + 1 < W4.heap.size + 1 by have := hrb.out; omega)
          clear C5 hrb
          generalize hEx : W4.heap.size + 1 = rb at X5 hX5 ⊢
          clear hEx
          have y0 := X5.out.c0
          have y1 := X5.out.c1
          have zX : rb < W5.heap.size := X5.out.lt
          go_wp2_with fail
          refine (sLine_any (some ⟨ab, ao, none⟩) (k + 2) Cp (U i) (R i) _ P5 (by omega)).mono ?_
          rintro e W6 ⟨he, k6⟩
          rw [← hX.out i] at he
          subst he
          replace HW := hik (flKeep HW.out k6)
          replace HE := hik (HE.out.keep k6)
          replace S5 := hik (rowIs_keep S5.out k6)
          replace HF := hik (HF.out.keep k6)
          replace HY := hik (rowIs_keep HY.out k6)
          replace X5 := hik (X5.out.keep k6)
          replace G5 := hik (G5.out.trans k6)
          clear k6 y0 y1 zX P5
          have z0 := HE.out.c0
          have z1 := HE.out.c1
          have v0 := HE.out.fz 0
          have v1 := HE.out.fz 1
          have zE : w.heap.size < W6.heap.size := HE.out.lt
          go_upto_region 16 with fail
          have C7 := hik (chg2_at (Chg.refl (fun b => b = w.heap.size) W6) w.heap.size (fun _ => rfl) 0 1 (.int .i64 (X (i + 1)).v.1) (.int .i64 (X (i + 1)).v.2))
          have E7 := hik (HE.out.set (X (i + 1)))
          have G7 := hik (chg2_at G5.out w.heap.size (fun l => absurd l (by omega)) 0 1 (.int .i64 (X (i + 1)).v.1) (.int .i64 (X (i + 1)).v.2))
          clear z0 z1 v0 v1 zE HE G5
          generalize hE : (W6.setCell ⟨w.heap.size, 0, none⟩ (.int .i64 (X (i + 1)).v.1)).setCell ⟨w.heap.size, 1, none⟩ (.int .i64 (X (i + 1)).v.2) = W7 at C7 E7 G7 ⊢
          clear hE
          replace HW := hik (owns_far HW.out C7.out (fun b hb e => by have := HSZ.out; omega))
          replace S5 := hik (rowIs_chg S5.out C7.out (by omega))
          replace HF := hik (HF.out.chg C7.out (by omega))
          replace HY := hik (rowIs_chg HY.out C7.out (by omega))
          replace X5 := hik (X5.out.chg C7.out (by have := hX5.out; omega))
          clear C7
          have y0 := X5.out.c0
          have y1 := X5.out.c1
          have zX : rb < W7.heap.size := X5.out.lt
          have hsz := hik (show w.heap.size + 1 + 1 + 1 < W7.heap.size from HY.out.lt)
          go_wp2_with (at_builtin; refine wpList_append_own _ rfl (.tmp 69) (.tmp 71) 30 rfl W0.heap.size 31 i0 (.agg #[.int .i64 0, .int .i64 0]) 2 16 Tryz.underlying30 HI.out HZ0.out HZ1.out HZ2.out rfl (by decide) _ i _ rfl (HW.out.alloc _) ⟨_, 0, none⟩ 1 1 [.int .i64 (R i).v.1, .int .i64 (R i).v.2] rfl rfl ?c1 ?c2 ?c3 ?c4 ?c5 ?c6)
          case c1 => exact flNews _ _ _ _
          case c2 => exact flOne _ _
          case c3 => unfold maxLen; omega
          case c4 => omega
          case c5 => have := hsz.out; have := HSZ.out; simp; omega
          case c6 =>
            intro v' w2 hown hgr _
            have HW2 : Hid (w2.ownsRow W0.heap.size 31 2 v' (i + 1) ((List.range ((i + 1) * 2)).map (pf (cA R) (cB R)))) := hik (by rw [← flPair]; exact hown)
            have C8 := hik (((Chg.refl (fun b => w.heap.size + 4 ≤ b) W7).alloc (.cells #[.int .i64 (R i).v.1, .int .i64 (R i).v.2] 31)).trans ((Chg.refl (fun b => w.heap.size + 4 ≤ b) _).grown hgr (fun b e _ => by have := (HW.out.lt b e).1; have := HSZ.out; omega)))
            replace E7 := hik (E7.out.chg C8.out (by omega))
            replace S5 := hik (rowIs_chg S5.out C8.out (by omega))
            replace HF := hik (HF.out.chg C8.out (by omega))
            replace HY := hik (rowIs_chg HY.out C8.out (by omega))
            replace G7 := hik (G7.out.near C8.out (fun b e => by omega))
            clear hown hgr HW y0 y1 zX X5 C8
            go_wp2
            go_roundw
            case rel => exact ⟨i + 1, n'', by omega, by go_num, HC2, HW2, E7, S5, HF, HY, G7⟩
            case measure => simp [intOf]; omega
        · have hs0 := hsum
          have KW := hik ((Chg.refl nob wi).drew1)
          have SA := hik (fun (WW : World) (kW : Chg nob wi WW) => (show (WW.cell? ⟨ab, ao, none⟩ = some (.int .i64 (U i 0).v.1) ∧ WW.cell? ⟨ab, ao + 1, none⟩ = some (.int .i64 (U i 0).v.2) ∧ WW.cell? ⟨ab, ao + 2, none⟩ = some (.int .i64 (U i 1).v.1) ∧ WW.cell? ⟨ab, ao + 2 + 1, none⟩ = some (.int .i64 (U i 1).v.2) ∧ WW.cell? ⟨w.heap.size, 0, none⟩ = some (.int .i64 (X i).v.1) ∧ WW.cell? ⟨w.heap.size, 1, none⟩ = some (.int .i64 (X i).v.2)) from ⟨kW.see u0, kW.see u1, kW.see y0, kW.see y1, kW.see z0, kW.see z1⟩))
          refine wp_region_held_drew (S := fun w' => w'.cell? ⟨ab, ao, none⟩ = some (.int .i64 (U i 0).v.1) ∧ w'.cell? ⟨ab, ao + 1, none⟩ = some (.int .i64 (U i 0).v.2) ∧ w'.cell? ⟨ab, ao + 2, none⟩ = some (.int .i64 (U i 1).v.1) ∧ w'.cell? ⟨ab, ao + 2 + 1, none⟩ = some (.int .i64 (U i 1).v.2) ∧ w'.cell? ⟨w.heap.size, 0, none⟩ = some (.int .i64 (X i).v.1) ∧ w'.cell? ⟨w.heap.size, 1, none⟩ = some (.int .i64 (X i).v.2)) (by kernel_rfl) ⟨u0, u1, y0, y1, z0, z1⟩ (fun hHeld => ?_)
          refine wpAnyH_take (i := 0) (v := ?_) rfl (by kernel_rfl) (by kernel_rfl) (by kernel_rfl) (fun _ _ _ h => h) (Or.inl ⟨by rfl, ?_⟩) (by assumption) ?_
          rotate_left 1
          · (intro w' hSw; (try dsimp only at hSw); go_simp; try with_reducible rfl)
          try simp only [Act.put, List.setIfInBounds_toArray, List.set_cons_zero, List.set_cons_succ, List.getElem_toArray, List.getElem_cons_zero, List.getElem_cons_succ]
          refine wpAnyH_take (i := 1) (v := ?_) rfl (by kernel_rfl) (by kernel_rfl) (by kernel_rfl) (fun _ _ _ h => h) (Or.inl ⟨by rfl, ?_⟩) (by assumption) ?_
          rotate_left 1
          · (intro w' hSw; (try dsimp only at hSw); go_simp; try with_reducible rfl)
          try simp only [Act.put, List.setIfInBounds_toArray, List.set_cons_zero, List.set_cons_succ, List.getElem_toArray, List.getElem_cons_zero, List.getElem_cons_succ]
          refine wpAnyH_take (i := 2) (v := ?_) rfl (by kernel_rfl) (by kernel_rfl) (by kernel_rfl) (fun _ _ _ h => h) (Or.inl ⟨by rfl, ?_⟩) (by assumption) ?_
          rotate_left 1
          · (intro w' hSw; (try dsimp only at hSw); go_simp; try with_reducible rfl)
          try simp only [Act.put, List.setIfInBounds_toArray, List.set_cons_zero, List.set_cons_succ, List.getElem_toArray, List.getElem_cons_zero, List.getElem_cons_succ]
          refine wpAnyH_take (i := 3) (v := ?_) rfl (by kernel_rfl) (by kernel_rfl) (by kernel_rfl) (fun _ _ _ h => h) (Or.inl ⟨by rfl, ?_⟩) (by assumption) ?_
          rotate_left 1
          · (intro w' hSw; (try dsimp only at hSw); go_simp; try with_reducible rfl)
          try simp only [Act.put, List.setIfInBounds_toArray, List.set_cons_zero, List.set_cons_succ, List.getElem_toArray, List.getElem_cons_zero, List.getElem_cons_succ]
          refine wpAnyH_take (i := 4) (v := ?_) rfl (by kernel_rfl) (by kernel_rfl) (by kernel_rfl) (fun _ _ _ h => h) (Or.inl ⟨by rfl, ?_⟩) (by assumption) ?_
          rotate_left 1
          · (intro w' hSw; (try dsimp only at hSw); go_simp; try with_reducible rfl)
          try simp only [Act.put, List.setIfInBounds_toArray, List.set_cons_zero, List.set_cons_succ, List.getElem_toArray, List.getElem_cons_zero, List.getElem_cons_succ]
          refine wpAnyH_take (i := 5) (v := ?_) rfl (by kernel_rfl) (by kernel_rfl) (by kernel_rfl) (fun _ _ _ h => h) (Or.inl ⟨by rfl, ?_⟩) (by assumption) ?_
          rotate_left 1
          · (intro w' hSw; (try dsimp only at hSw); go_simp; try with_reducible rfl)
          try simp only [Act.put, List.setIfInBounds_toArray, List.set_cons_zero, List.set_cons_succ, List.getElem_toArray, List.getElem_cons_zero, List.getElem_cons_succ]
          refine wpAnyH_take (i := 7) (v := ?_) rfl (by kernel_rfl) (by kernel_rfl) (by kernel_rfl) (fun _ _ _ h => h) (Or.inl ⟨by rfl, ?_⟩) (by assumption) ?_
          rotate_left 1
          · (intro w' hSw; (try dsimp only at hSw); go_simp; try with_reducible rfl)
          try simp only [Act.put, List.setIfInBounds_toArray, List.set_cons_zero, List.set_cons_succ, List.getElem_toArray, List.getElem_cons_zero, List.getElem_cons_succ]
          refine wpAnyH_ready (rs := [6]) (by kernel_rfl) (by simp) ?_
          refine AllReadyH.cons rfl (fun K hK => ?_) AllReadyH.nil
          refine stepL_callN 39 #[.tmp 47, .tmp 50] #[31, 31] (by rfl) (by rfl) #[.agg #[.int .i64 (U i 0).v.1, .int .i64 (U i 0).v.2], .agg #[.int .i64 (U i 1).v.1, .int .i64 (U i 1).v.2]] (by simp only [List.map_toArray, List.map_cons, List.map_nil] <;> rfl) (run_go Tryz.func39 (by kernel_rfl) (by kernel_rfl) _ _) (sAd_el (U i 0) (U i 1) _) ?_
          rintro e U1 ⟨he, kk⟩
          refine ⟨_, he, ?_⟩
          replace KW := hik (KW.out.trans kk)
          refine hK.out _ _ (SA.out _ KW.out) (fun hHeld => ?_)
          clear hK K
          try simp only [Act.put, List.setIfInBounds_toArray, List.set_cons_zero, List.set_cons_succ, List.getElem_toArray, List.getElem_cons_zero, List.getElem_cons_succ]
          clear he kk
          refine wpAnyH_take (i := 8) (v := .bool true) rfl (by kernel_rfl) (by kernel_rfl) (by kernel_rfl) (fun _ _ _ h => h) (Or.inl ⟨by rfl, ?_⟩) (by assumption) ?_
          · (intro w' hSw; (try dsimp only at hSw); go_simp; exact fun e1 e2 => hsum (Prod.ext e1 e2))
          try simp only [Act.put, List.setIfInBounds_toArray, List.set_cons_zero, List.set_cons_succ, List.getElem_toArray, List.getElem_cons_zero, List.getElem_cons_succ]
          refine wpAnyH_done (by kernel_rfl) ?_ _
          replace HW := hik (flKeep HW.out KW.out)
          replace HE := hik (HE.out.keep KW.out)
          replace HS := hik (rowIs_keep HS.out KW.out)
          replace HF := hik (HF.out.keep KW.out)
          replace HY := hik (rowIs_keep HY.out KW.out)
          replace HG := hik (HG.out.trans KW.out)
          replace PU := hik (PairE.keep PU.out KW.out)
          clear SA hHeld KW u0 u1 y0 y1 z0 z1 hc
          have HC2 := hik (show code = 10 by rw [HC.out, HVI.out, if_pos hLk, if_neg hsum])
          clear HC HVI
          go_upto_region 11 with fail
          have x0 : (U1).cell? ⟨w.heap.size + 1, 0, none⟩ = some (.slice cs len caps) := HS.out.cell (by omega)
          have x1 : (U1).cell? ⟨w.heap.size + 1, 1, none⟩ = some (.int .i64 (Qa i)) := HS.out.cell (by omega)
          have x2 : (U1).cell? ⟨w.heap.size + 1, 2, none⟩ = some (.string (Qs i)) := HS.out.cell (by omega)
          have x3 : (U1).cell? ⟨w.heap.size + 1, 3, none⟩ = some (.int .i64 (Qc i)) := HS.out.cell (by omega)
          have KN := hik ((Chg.refl nob U1).drew1)
          have KW := hik ((Chg.refl (fun b => b = w.heap.size + 1 + 1) U1).drew1)
          have SA := hik (fun (WW : World) (kW : Chg (fun b => b = w.heap.size + 1 + 1) U1 WW) => (show (WW.cell? ⟨w.heap.size + 1, 0, none⟩ = some (.slice cs len caps) ∧ WW.cell? ⟨w.heap.size + 1, 1, none⟩ = some (.int .i64 (Qa i)) ∧ WW.cell? ⟨w.heap.size + 1, 2, none⟩ = some (.string (Qs i)) ∧ WW.cell? ⟨w.heap.size + 1, 3, none⟩ = some (.int .i64 (Qc i))) from ⟨kW.seeP x0 (by omega), kW.seeP x1 (by omega), kW.seeP x2 (by omega), kW.seeP x3 (by omega)⟩))
          refine wp_regionL (L := 5) (S := fun w' => w'.cell? ⟨w.heap.size + 1, 0, none⟩ = some (.slice cs len caps) ∧ w'.cell? ⟨w.heap.size + 1, 1, none⟩ = some (.int .i64 (Qa i)) ∧ w'.cell? ⟨w.heap.size + 1, 2, none⟩ = some (.string (Qs i)) ∧ w'.cell? ⟨w.heap.size + 1, 3, none⟩ = some (.int .i64 (Qc i))) (by kernel_rfl) (SA.out _ KW.out) (fun hHeld => ?_)
          refine wpAnyL_take (i := 1) (v := ?_) rfl (by kernel_rfl) (by kernel_rfl) (by kernel_rfl) (fun _ _ _ h => h) (by rfl) (by kernel_rfl) (by kernel_rfl) (Or.inl ⟨by rfl, ?_⟩) (by assumption) ?_
          rotate_left 1
          · (intro w' hSw; (try dsimp only at hSw); go_simp; try with_reducible rfl)
          try simp only [Act.put, List.setIfInBounds_toArray, List.set_cons_zero, List.set_cons_succ, List.getElem_toArray, List.getElem_cons_zero, List.getElem_cons_succ]
          refine wpAnyL_take (i := 2) (v := ?_) rfl (by kernel_rfl) (by kernel_rfl) (by kernel_rfl) (fun _ _ _ h => h) (by rfl) (by kernel_rfl) (by kernel_rfl) (Or.inl ⟨by rfl, ?_⟩) (by assumption) ?_
          rotate_left 1
          · (intro w' hSw; (try dsimp only at hSw); go_simp; try with_reducible rfl)
          try simp only [Act.put, List.setIfInBounds_toArray, List.set_cons_zero, List.set_cons_succ, List.getElem_toArray, List.getElem_cons_zero, List.getElem_cons_succ]
          refine wpAnyL_ready (rs := [0]) (by kernel_rfl) (by simp) ?_
          refine AllReadyL.cons rfl (fun K hK => ?_) AllReadyL.nil
          simp only [List.getElem_toArray, List.getElem_cons_zero, List.getElem_cons_succ]
          go_simp
          replace KW := hik (KW.out.alloc (.cells #[] 31))
          replace KN := hik (KN.out.alloc (.cells #[] 31))
          refine hK.out _ _ (SA.out _ KW.out) (fun hHeld => ?_)
          clear hK K
          try simp only [Act.put, List.setIfInBounds_toArray, List.set_cons_zero, List.set_cons_succ, List.getElem_toArray, List.getElem_cons_zero, List.getElem_cons_succ]
          refine wpAnyL_take (i := 3) (v := ?_) rfl (by kernel_rfl) (by kernel_rfl) (by kernel_rfl) (fun _ _ _ h => h) (by rfl) (by kernel_rfl) (by kernel_rfl) (Or.inl ⟨by rfl, ?_⟩) (by assumption) ?_
          rotate_left 1
          · (intro w' hSw; (try dsimp only at hSw); go_simp; try with_reducible rfl)
          try simp only [Act.put, List.setIfInBounds_toArray, List.set_cons_zero, List.set_cons_succ, List.getElem_toArray, List.getElem_cons_zero, List.getElem_cons_succ]
          refine wpAnyL_ready (rs := [4]) (by kernel_rfl) (by simp) ?_
          refine AllReadyL.cons rfl (fun K hK => ?_) AllReadyL.nil
          have FN := hik (HF.out.keep KN.out)
          have g0 : U1.cell? ⟨w.heap.size + 1 + 1, 0, none⟩ = some (.int .i64 0) := HF.out.c0
          have g1 : U1.cell? ⟨w.heap.size + 1 + 1, 1, none⟩ = some (.int .i64 0) := HF.out.c1
          have f0 := HF.out.fz 0
          have f1 := HF.out.fz 1
          have ln : w.heap.size + 1 + 1 < U1.heap.size := HF.out.lt
          simp only [List.getElem_toArray, List.getElem_cons_zero, List.getElem_cons_succ]
          go_simp
          have KW6 : Hid (Chg (fun b => b = w.heap.size + 1 + 1) U1 ((((U1.setCell ⟨w.heap.size + 1 + 1, 0, none⟩ (.int .i64 0)).setCell ⟨w.heap.size + 1 + 1, 1, none⟩ (.int .i64 0)).alloc (.cells #[] 31)).drew)) := hik (((chg2_at (Chg.refl (fun b => b = w.heap.size + 1 + 1) U1) (w.heap.size + 1 + 1) (fun _ => rfl) 0 1 (.int .i64 0) (.int .i64 0)).alloc _).drew1)
          have F6 : Hid (ElB ((((U1.setCell ⟨w.heap.size + 1 + 1, 0, none⟩ (.int .i64 0)).setCell ⟨w.heap.size + 1 + 1, 1, none⟩ (.int .i64 0)).alloc (.cells #[] 31)).drew) (w.heap.size + 1 + 1) El.zr) := hik ((HF.out.set El.zr).keep (((Chg.refl nob _).alloc _).drew1))
          have Y6 := hik (rowIs_chg HY.out KW6.out (by omega))
          have G6 : Hid (Chg nob w ((((U1.setCell ⟨w.heap.size + 1 + 1, 0, none⟩ (.int .i64 0)).setCell ⟨w.heap.size + 1 + 1, 1, none⟩ (.int .i64 0)).alloc (.cells #[] 31)).drew)) := hik (((chg2_at HG.out (w.heap.size + 1 + 1) (fun l => absurd l (by omega)) 0 1 (.int .i64 0) (.int .i64 0)).alloc _).drew1)
          clear g0 g1 f0 f1 ln
          refine hK.out _ _ (SA.out _ KW6.out) (fun hHeld => ?_)
          clear hK K
          try simp only [Act.put, List.setIfInBounds_toArray, List.set_cons_zero, List.set_cons_succ, List.getElem_toArray, List.getElem_cons_zero, List.getElem_cons_succ]
          clear KW KN FN hHeld
          generalize hE : (((U1.setCell ⟨w.heap.size + 1 + 1, 0, none⟩ (.int .i64 0)).setCell ⟨w.heap.size + 1 + 1, 1, none⟩ (.int .i64 0)).alloc (.cells #[] 31)).drew = W6 at KW6 F6 Y6 G6 ⊢
          clear hE
          refine wpAnyL_ready (rs := [5]) (by kernel_rfl) (by simp) ?_
          refine AllReadyL.last rfl (by kernel_rfl) (fun K hK => ?_)
          have g0 : W6.cell? ⟨w.heap.size + 1 + 1 + 1, 0, none⟩ = some (.slice none 0 0) := Y6.out.cell (by omega)
          have f0 := Y6.out.frozen 0
          have g1 : W6.cell? ⟨w.heap.size + 1 + 1 + 1, 1, none⟩ = some (.int .i64 0) := Y6.out.cell (by omega)
          have f1 := Y6.out.frozen 1
          have g2 : W6.cell? ⟨w.heap.size + 1 + 1 + 1, 2, none⟩ = some (.string ⟨#[]⟩) := Y6.out.cell (by omega)
          have f2 := Y6.out.frozen 2
          have g3 : W6.cell? ⟨w.heap.size + 1 + 1 + 1, 3, none⟩ = some (.int .i64 0) := Y6.out.cell (by omega)
          have f3 := Y6.out.frozen 3
          have ln : w.heap.size + 1 + 1 + 1 < W6.heap.size := Y6.out.lt
          simp only [List.getElem_toArray, List.getElem_cons_zero, List.getElem_cons_succ]
          go_simp
          refine hK.out _ _ ?_
          clear hK K
          try simp only [Act.put, List.setIfInBounds_toArray, List.set_cons_zero, List.set_cons_succ, List.getElem_toArray, List.getElem_cons_zero, List.getElem_cons_succ]
          clear g0 g1 g2 g3 f0 f1 f2 f3 ln
          refine wpAnyL_take1 (i := 6) (v := ?_) rfl (by kernel_rfl) (by kernel_rfl) (by kernel_rfl) (fun _ _ _ h => h) (by rfl) (by rfl) (Or.inl ⟨by rfl, ?_⟩) ?_
          rotate_left 1
          · (intro w' hSw; (try dsimp only at hSw); go_simp; try with_reducible rfl)
          try simp only [Act.put, List.setIfInBounds_toArray, List.set_cons_zero, List.set_cons_succ, List.getElem_toArray, List.getElem_cons_zero, List.getElem_cons_succ]
          refine wpAnyL_done (by kernel_rfl) ?_ _
          have G7 := hik (chg4_set G6.out (w.heap.size + 1 + 1 + 1) (fun l => absurd l (by omega)) (.slice cs len caps) (.int .i64 (Qa i)) (.string (Qs i)) (.int .i64 (Qc i)))
          have u0 := F6.out.c0
          have u1 := F6.out.c1
          go_wp2
          exact bodyPost_ret (v := .tuple #[.slice (some ⟨U1.heap.size, 0, none⟩) 0 0, .agg #[.int .i64 El.zr.v.1, .int .i64 El.zr.v.2], .agg #[.slice cs len caps, .int .i64 (Qa i), .string (Qs i), .int .i64 (Qc i)], .int .i64 10]) (by simp [results, Tryz.results27, go_sem, u0, u1, row4_s0 Y6.out (.slice cs len caps), row4_s1 Y6.out (.slice cs len caps) (.int .i64 (Qa i)), row4_s2 Y6.out (.slice cs len caps) (.int .i64 (Qa i)) (.string (Qs i)), row4_s3 Y6.out (.slice cs len caps) (.int .i64 (Qa i)) (.string (Qs i)) (.int .i64 (Qc i))]) rfl ⟨_, _, _, _, _, _, _, by rw [HC2.out], fun h0 => absurd h0 (by rw [HC2.out]; decide), G7.out⟩
      · have hn1 : ¬ ((L i : Nat) : Int) = ((k + 2 : Nat) : Int) := by omega
        have HC2 := hik (show code = 18 by rw [HC.out, HVI.out, if_neg hLk])
        clear HC HVI
        go_wp2_with fail
        refine (QD.out _).mono ?_
        rintro e W1 ⟨rfl, hw⟩
        have hw' := hw.symm
        clear hw
        subst hw'
        go_upto_region 9 with fail
        have x0 : (wi).cell? ⟨w.heap.size + 1, 0, none⟩ = some (.slice cs len caps) := HS.out.cell (by omega)
        have x1 : (wi).cell? ⟨w.heap.size + 1, 1, none⟩ = some (.int .i64 (Qa i)) := HS.out.cell (by omega)
        have x2 : (wi).cell? ⟨w.heap.size + 1, 2, none⟩ = some (.string (Qs i)) := HS.out.cell (by omega)
        have x3 : (wi).cell? ⟨w.heap.size + 1, 3, none⟩ = some (.int .i64 (Qc i)) := HS.out.cell (by omega)
        have KN := hik ((Chg.refl nob wi).drew1)
        have KW := hik ((Chg.refl (fun b => b = w.heap.size + 1 + 1) wi).drew1)
        have SA := hik (fun (WW : World) (kW : Chg (fun b => b = w.heap.size + 1 + 1) wi WW) => (show (WW.cell? ⟨w.heap.size + 1, 0, none⟩ = some (.slice cs len caps) ∧ WW.cell? ⟨w.heap.size + 1, 1, none⟩ = some (.int .i64 (Qa i)) ∧ WW.cell? ⟨w.heap.size + 1, 2, none⟩ = some (.string (Qs i)) ∧ WW.cell? ⟨w.heap.size + 1, 3, none⟩ = some (.int .i64 (Qc i))) from ⟨kW.seeP x0 (by omega), kW.seeP x1 (by omega), kW.seeP x2 (by omega), kW.seeP x3 (by omega)⟩))
        refine wp_regionL (L := 5) (S := fun w' => w'.cell? ⟨w.heap.size + 1, 0, none⟩ = some (.slice cs len caps) ∧ w'.cell? ⟨w.heap.size + 1, 1, none⟩ = some (.int .i64 (Qa i)) ∧ w'.cell? ⟨w.heap.size + 1, 2, none⟩ = some (.string (Qs i)) ∧ w'.cell? ⟨w.heap.size + 1, 3, none⟩ = some (.int .i64 (Qc i))) (by kernel_rfl) (SA.out _ KW.out) (fun hHeld => ?_)
        refine wpAnyL_take (i := 1) (v := ?_) rfl (by kernel_rfl) (by kernel_rfl) (by kernel_rfl) (fun _ _ _ h => h) (by rfl) (by kernel_rfl) (by kernel_rfl) (Or.inl ⟨by rfl, ?_⟩) (by assumption) ?_
        rotate_left 1
        · (intro w' hSw; (try dsimp only at hSw); go_simp; try with_reducible rfl)
        try simp only [Act.put, List.setIfInBounds_toArray, List.set_cons_zero, List.set_cons_succ, List.getElem_toArray, List.getElem_cons_zero, List.getElem_cons_succ]
        refine wpAnyL_take (i := 2) (v := ?_) rfl (by kernel_rfl) (by kernel_rfl) (by kernel_rfl) (fun _ _ _ h => h) (by rfl) (by kernel_rfl) (by kernel_rfl) (Or.inl ⟨by rfl, ?_⟩) (by assumption) ?_
        rotate_left 1
        · (intro w' hSw; (try dsimp only at hSw); go_simp; try with_reducible rfl)
        try simp only [Act.put, List.setIfInBounds_toArray, List.set_cons_zero, List.set_cons_succ, List.getElem_toArray, List.getElem_cons_zero, List.getElem_cons_succ]
        refine wpAnyL_ready (rs := [0]) (by kernel_rfl) (by simp) ?_
        refine AllReadyL.cons rfl (fun K hK => ?_) AllReadyL.nil
        simp only [List.getElem_toArray, List.getElem_cons_zero, List.getElem_cons_succ]
        go_simp
        replace KW := hik (KW.out.alloc (.cells #[] 31))
        replace KN := hik (KN.out.alloc (.cells #[] 31))
        refine hK.out _ _ (SA.out _ KW.out) (fun hHeld => ?_)
        clear hK K
        try simp only [Act.put, List.setIfInBounds_toArray, List.set_cons_zero, List.set_cons_succ, List.getElem_toArray, List.getElem_cons_zero, List.getElem_cons_succ]
        refine wpAnyL_take (i := 3) (v := ?_) rfl (by kernel_rfl) (by kernel_rfl) (by kernel_rfl) (fun _ _ _ h => h) (by rfl) (by kernel_rfl) (by kernel_rfl) (Or.inl ⟨by rfl, ?_⟩) (by assumption) ?_
        rotate_left 1
        · (intro w' hSw; (try dsimp only at hSw); go_simp; try with_reducible rfl)
        try simp only [Act.put, List.setIfInBounds_toArray, List.set_cons_zero, List.set_cons_succ, List.getElem_toArray, List.getElem_cons_zero, List.getElem_cons_succ]
        refine wpAnyL_ready (rs := [4]) (by kernel_rfl) (by simp) ?_
        refine AllReadyL.cons rfl (fun K hK => ?_) AllReadyL.nil
        have FN := hik (HF.out.keep KN.out)
        have g0 : wi.cell? ⟨w.heap.size + 1 + 1, 0, none⟩ = some (.int .i64 0) := HF.out.c0
        have g1 : wi.cell? ⟨w.heap.size + 1 + 1, 1, none⟩ = some (.int .i64 0) := HF.out.c1
        have f0 := HF.out.fz 0
        have f1 := HF.out.fz 1
        have ln : w.heap.size + 1 + 1 < wi.heap.size := HF.out.lt
        simp only [List.getElem_toArray, List.getElem_cons_zero, List.getElem_cons_succ]
        go_simp
        have KW6 : Hid (Chg (fun b => b = w.heap.size + 1 + 1) wi ((((wi.setCell ⟨w.heap.size + 1 + 1, 0, none⟩ (.int .i64 0)).setCell ⟨w.heap.size + 1 + 1, 1, none⟩ (.int .i64 0)).alloc (.cells #[] 31)).drew)) := hik (((chg2_at (Chg.refl (fun b => b = w.heap.size + 1 + 1) wi) (w.heap.size + 1 + 1) (fun _ => rfl) 0 1 (.int .i64 0) (.int .i64 0)).alloc _).drew1)
        have F6 : Hid (ElB ((((wi.setCell ⟨w.heap.size + 1 + 1, 0, none⟩ (.int .i64 0)).setCell ⟨w.heap.size + 1 + 1, 1, none⟩ (.int .i64 0)).alloc (.cells #[] 31)).drew) (w.heap.size + 1 + 1) El.zr) := hik ((HF.out.set El.zr).keep (((Chg.refl nob _).alloc _).drew1))
        have Y6 := hik (rowIs_chg HY.out KW6.out (by omega))
        have G6 : Hid (Chg nob w ((((wi.setCell ⟨w.heap.size + 1 + 1, 0, none⟩ (.int .i64 0)).setCell ⟨w.heap.size + 1 + 1, 1, none⟩ (.int .i64 0)).alloc (.cells #[] 31)).drew)) := hik (((chg2_at HG.out (w.heap.size + 1 + 1) (fun l => absurd l (by omega)) 0 1 (.int .i64 0) (.int .i64 0)).alloc _).drew1)
        clear g0 g1 f0 f1 ln
        refine hK.out _ _ (SA.out _ KW6.out) (fun hHeld => ?_)
        clear hK K
        try simp only [Act.put, List.setIfInBounds_toArray, List.set_cons_zero, List.set_cons_succ, List.getElem_toArray, List.getElem_cons_zero, List.getElem_cons_succ]
        clear KW KN FN hHeld
        generalize hE : (((wi.setCell ⟨w.heap.size + 1 + 1, 0, none⟩ (.int .i64 0)).setCell ⟨w.heap.size + 1 + 1, 1, none⟩ (.int .i64 0)).alloc (.cells #[] 31)).drew = W6 at KW6 F6 Y6 G6 ⊢
        clear hE
        refine wpAnyL_ready (rs := [5]) (by kernel_rfl) (by simp) ?_
        refine AllReadyL.last rfl (by kernel_rfl) (fun K hK => ?_)
        have g0 : W6.cell? ⟨w.heap.size + 1 + 1 + 1, 0, none⟩ = some (.slice none 0 0) := Y6.out.cell (by omega)
        have f0 := Y6.out.frozen 0
        have g1 : W6.cell? ⟨w.heap.size + 1 + 1 + 1, 1, none⟩ = some (.int .i64 0) := Y6.out.cell (by omega)
        have f1 := Y6.out.frozen 1
        have g2 : W6.cell? ⟨w.heap.size + 1 + 1 + 1, 2, none⟩ = some (.string ⟨#[]⟩) := Y6.out.cell (by omega)
        have f2 := Y6.out.frozen 2
        have g3 : W6.cell? ⟨w.heap.size + 1 + 1 + 1, 3, none⟩ = some (.int .i64 0) := Y6.out.cell (by omega)
        have f3 := Y6.out.frozen 3
        have ln : w.heap.size + 1 + 1 + 1 < W6.heap.size := Y6.out.lt
        simp only [List.getElem_toArray, List.getElem_cons_zero, List.getElem_cons_succ]
        go_simp
        refine hK.out _ _ ?_
        clear hK K
        try simp only [Act.put, List.setIfInBounds_toArray, List.set_cons_zero, List.set_cons_succ, List.getElem_toArray, List.getElem_cons_zero, List.getElem_cons_succ]
        clear g0 g1 g2 g3 f0 f1 f2 f3 ln
        refine wpAnyL_take1 (i := 6) (v := ?_) rfl (by kernel_rfl) (by kernel_rfl) (by kernel_rfl) (fun _ _ _ h => h) (by rfl) (by rfl) (Or.inl ⟨by rfl, ?_⟩) ?_
        rotate_left 1
        · (intro w' hSw; (try dsimp only at hSw); go_simp; try with_reducible rfl)
        try simp only [Act.put, List.setIfInBounds_toArray, List.set_cons_zero, List.set_cons_succ, List.getElem_toArray, List.getElem_cons_zero, List.getElem_cons_succ]
        refine wpAnyL_done (by kernel_rfl) ?_ _
        have G7 := hik (chg4_set G6.out (w.heap.size + 1 + 1 + 1) (fun l => absurd l (by omega)) (.slice cs len caps) (.int .i64 (Qa i)) (.string (Qs i)) (.int .i64 (Qc i)))
        have u0 := F6.out.c0
        have u1 := F6.out.c1
        go_wp2
        exact bodyPost_ret (v := .tuple #[.slice (some ⟨wi.heap.size, 0, none⟩) 0 0, .agg #[.int .i64 El.zr.v.1, .int .i64 El.zr.v.2], .agg #[.slice cs len caps, .int .i64 (Qa i), .string (Qs i), .int .i64 (Qc i)], .int .i64 18]) (by simp [results, Tryz.results27, go_sem, u0, u1, row4_s0 Y6.out (.slice cs len caps), row4_s1 Y6.out (.slice cs len caps) (.int .i64 (Qa i)), row4_s2 Y6.out (.slice cs len caps) (.int .i64 (Qa i)) (.string (Qs i)), row4_s3 Y6.out (.slice cs len caps) (.int .i64 (Qa i)) (.string (Qs i)) (.int .i64 (Qc i))]) rfl ⟨_, _, _, _, _, _, _, by rw [HC2.out], fun h0 => absurd h0 (by rw [HC2.out]; decide), G7.out⟩
    · obtain rfl : i = m := by omega
      have hii : ¬ (i : Int) < (i : Int) := by omega
      have HC2 := hik (show code = 0 by rw [HC.out, show n' = 0 by omega, hV0.out])
      obtain ⟨cv, capv, ev, hle, ov⟩ := OwnE.of_owns HW.out
      subst ev
      have O9 := hik ov
      clear hle ov HW HC
      go_upto_region 17 with fail
      have x0 : (wi).cell? ⟨w.heap.size + 1, 0, none⟩ = some (.slice cs len caps) := HS.out.cell (by omega)
      have x1 : (wi).cell? ⟨w.heap.size + 1, 1, none⟩ = some (.int .i64 (Qa i)) := HS.out.cell (by omega)
      have x2 : (wi).cell? ⟨w.heap.size + 1, 2, none⟩ = some (.string (Qs i)) := HS.out.cell (by omega)
      have x3 : (wi).cell? ⟨w.heap.size + 1, 3, none⟩ = some (.int .i64 (Qc i)) := HS.out.cell (by omega)
      have z0 := HE.out.c0
      have z1 := HE.out.c1
      have KW := hik ((Chg.refl (fun b => b = w.heap.size + 1 + 1) wi).drew1)
      have SA := hik (fun (WW : World) (kW : Chg (fun b => b = w.heap.size + 1 + 1) wi WW) => (show (WW.cell? ⟨w.heap.size + 1, 0, none⟩ = some (.slice cs len caps) ∧ WW.cell? ⟨w.heap.size + 1, 1, none⟩ = some (.int .i64 (Qa i)) ∧ WW.cell? ⟨w.heap.size + 1, 2, none⟩ = some (.string (Qs i)) ∧ WW.cell? ⟨w.heap.size + 1, 3, none⟩ = some (.int .i64 (Qc i)) ∧ WW.cell? ⟨w.heap.size, 0, none⟩ = some (.int .i64 (X i).v.1) ∧ WW.cell? ⟨w.heap.size, 1, none⟩ = some (.int .i64 (X i).v.2)) from ⟨kW.seeP x0 (by omega), kW.seeP x1 (by omega), kW.seeP x2 (by omega), kW.seeP x3 (by omega), kW.seeP z0 (by omega), kW.seeP z1 (by omega)⟩))
      refine wp_regionL (L := 5) (S := fun w' => w'.cell? ⟨w.heap.size + 1, 0, none⟩ = some (.slice cs len caps) ∧ w'.cell? ⟨w.heap.size + 1, 1, none⟩ = some (.int .i64 (Qa i)) ∧ w'.cell? ⟨w.heap.size + 1, 2, none⟩ = some (.string (Qs i)) ∧ w'.cell? ⟨w.heap.size + 1, 3, none⟩ = some (.int .i64 (Qc i)) ∧ w'.cell? ⟨w.heap.size, 0, none⟩ = some (.int .i64 (X i).v.1) ∧ w'.cell? ⟨w.heap.size, 1, none⟩ = some (.int .i64 (X i).v.2)) (by kernel_rfl) (SA.out _ KW.out) (fun hHeld => ?_)
      refine wpAnyL_take (i := 0) (v := ?_) rfl (by kernel_rfl) (by kernel_rfl) (by kernel_rfl) (fun _ _ _ h => h) (by rfl) (by kernel_rfl) (by kernel_rfl) (Or.inl ⟨by rfl, ?_⟩) (by assumption) ?_
      rotate_left 1
      · (intro w' hSw; (try dsimp only at hSw); go_simp; try with_reducible rfl)
      try simp only [Act.put, List.setIfInBounds_toArray, List.set_cons_zero, List.set_cons_succ, List.getElem_toArray, List.getElem_cons_zero, List.getElem_cons_succ]
      refine wpAnyL_take (i := 1) (v := ?_) rfl (by kernel_rfl) (by kernel_rfl) (by kernel_rfl) (fun _ _ _ h => h) (by rfl) (by kernel_rfl) (by kernel_rfl) (Or.inl ⟨by rfl, ?_⟩) (by assumption) ?_
      rotate_left 1
      · (intro w' hSw; (try dsimp only at hSw); go_simp; try with_reducible rfl)
      try simp only [Act.put, List.setIfInBounds_toArray, List.set_cons_zero, List.set_cons_succ, List.getElem_toArray, List.getElem_cons_zero, List.getElem_cons_succ]
      refine wpAnyL_take (i := 2) (v := ?_) rfl (by kernel_rfl) (by kernel_rfl) (by kernel_rfl) (fun _ _ _ h => h) (by rfl) (by kernel_rfl) (by kernel_rfl) (Or.inl ⟨by rfl, ?_⟩) (by assumption) ?_
      rotate_left 1
      · (intro w' hSw; (try dsimp only at hSw); go_simp; try with_reducible rfl)
      try simp only [Act.put, List.setIfInBounds_toArray, List.set_cons_zero, List.set_cons_succ, List.getElem_toArray, List.getElem_cons_zero, List.getElem_cons_succ]
      refine wpAnyL_take (i := 3) (v := ?_) rfl (by kernel_rfl) (by kernel_rfl) (by kernel_rfl) (fun _ _ _ h => h) (by rfl) (by kernel_rfl) (by kernel_rfl) (Or.inl ⟨by rfl, ?_⟩) (by assumption) ?_
      rotate_left 1
      · (intro w' hSw; (try dsimp only at hSw); go_simp; try with_reducible rfl)
      try simp only [Act.put, List.setIfInBounds_toArray, List.set_cons_zero, List.set_cons_succ, List.getElem_toArray, List.getElem_cons_zero, List.getElem_cons_succ]
      refine wpAnyL_ready (rs := [4]) (by kernel_rfl) (by simp) ?_
      refine AllReadyL.cons rfl (fun K hK => ?_) AllReadyL.nil
      have g0 : wi.cell? ⟨w.heap.size + 1 + 1, 0, none⟩ = some (.int .i64 0) := HF.out.c0
      have g1 : wi.cell? ⟨w.heap.size + 1 + 1, 1, none⟩ = some (.int .i64 0) := HF.out.c1
      have f0 := HF.out.fz 0
      have f1 := HF.out.fz 1
      have ln : w.heap.size + 1 + 1 < wi.heap.size := HF.out.lt
      simp only [List.getElem_toArray, List.getElem_cons_zero, List.getElem_cons_succ]
      go_simp
      have KW6 : Hid (Chg (fun b => b = w.heap.size + 1 + 1) wi (((wi.setCell ⟨w.heap.size + 1 + 1, 0, none⟩ (.int .i64 (X i).v.1)).setCell ⟨w.heap.size + 1 + 1, 1, none⟩ (.int .i64 (X i).v.2)).drew)) := hik ((chg2_at (Chg.refl (fun b => b = w.heap.size + 1 + 1) wi) (w.heap.size + 1 + 1) (fun _ => rfl) 0 1 (.int .i64 (X i).v.1) (.int .i64 (X i).v.2)).drew1)
      have F6 : Hid (ElB (((wi.setCell ⟨w.heap.size + 1 + 1, 0, none⟩ (.int .i64 (X i).v.1)).setCell ⟨w.heap.size + 1 + 1, 1, none⟩ (.int .i64 (X i).v.2)).drew) (w.heap.size + 1 + 1) (X i)) := hik ((HF.out.set (X i)).keep ((Chg.refl nob _).drew1))
      have Y6 := hik (rowIs_chg HY.out KW6.out (by omega))
      have O6 := hik (O9.out.chg KW6.out (fun b hb _ hp => by have := HSZ.out; omega))
      have G6 : Hid (Chg nob w (((wi.setCell ⟨w.heap.size + 1 + 1, 0, none⟩ (.int .i64 (X i).v.1)).setCell ⟨w.heap.size + 1 + 1, 1, none⟩ (.int .i64 (X i).v.2)).drew)) := hik ((chg2_at HG.out (w.heap.size + 1 + 1) (fun l => absurd l (by omega)) 0 1 (.int .i64 (X i).v.1) (.int .i64 (X i).v.2)).drew1)
      clear g0 g1 f0 f1 ln
      refine hK.out _ _ (SA.out _ KW6.out) (fun hHeld => ?_)
      clear hK K
      try simp only [Act.put, List.setIfInBounds_toArray, List.set_cons_zero, List.set_cons_succ, List.getElem_toArray, List.getElem_cons_zero, List.getElem_cons_succ]
      clear KW hHeld
      generalize hE : ((wi.setCell ⟨w.heap.size + 1 + 1, 0, none⟩ (.int .i64 (X i).v.1)).setCell ⟨w.heap.size + 1 + 1, 1, none⟩ (.int .i64 (X i).v.2)).drew = W6 at KW6 F6 Y6 G6 O6 ⊢
      clear hE
      refine wpAnyL_ready (rs := [5]) (by kernel_rfl) (by simp) ?_
      refine AllReadyL.last rfl (by kernel_rfl) (fun K hK => ?_)
      have g0 : W6.cell? ⟨w.heap.size + 1 + 1 + 1, 0, none⟩ = some (.slice none 0 0) := Y6.out.cell (by omega)
      have f0 := Y6.out.frozen 0
      have g1 : W6.cell? ⟨w.heap.size + 1 + 1 + 1, 1, none⟩ = some (.int .i64 0) := Y6.out.cell (by omega)
      have f1 := Y6.out.frozen 1
      have g2 : W6.cell? ⟨w.heap.size + 1 + 1 + 1, 2, none⟩ = some (.string ⟨#[]⟩) := Y6.out.cell (by omega)
      have f2 := Y6.out.frozen 2
      have g3 : W6.cell? ⟨w.heap.size + 1 + 1 + 1, 3, none⟩ = some (.int .i64 0) := Y6.out.cell (by omega)
      have f3 := Y6.out.frozen 3
      have ln : w.heap.size + 1 + 1 + 1 < W6.heap.size := Y6.out.lt
      simp only [List.getElem_toArray, List.getElem_cons_zero, List.getElem_cons_succ]
      go_simp
      refine hK.out _ _ ?_
      clear hK K
      try simp only [Act.put, List.setIfInBounds_toArray, List.set_cons_zero, List.set_cons_succ, List.getElem_toArray, List.getElem_cons_zero, List.getElem_cons_succ]
      clear g0 g1 g2 g3 f0 f1 f2 f3 ln
      refine wpAnyL_take1 (i := 6) (v := ?_) rfl (by kernel_rfl) (by kernel_rfl) (by kernel_rfl) (fun _ _ _ h => h) (by rfl) (by rfl) (Or.inl ⟨by rfl, ?_⟩) ?_
      rotate_left 1
      · (intro w' hSw; (try dsimp only at hSw); go_simp; try with_reducible rfl)
      try simp only [Act.put, List.setIfInBounds_toArray, List.set_cons_zero, List.set_cons_succ, List.getElem_toArray, List.getElem_cons_zero, List.getElem_cons_succ]
      refine wpAnyL_done (by kernel_rfl) ?_ _
      have C7 := hik (chg4_set (Chg.refl (fun b => b = w.heap.size + 1 + 1 + 1) W6) (w.heap.size + 1 + 1 + 1) (fun _ => rfl) (.slice cs len caps) (.int .i64 (Qa i)) (.string (Qs i)) (.int .i64 (Qc i)))
      have O7 := hik (O6.out.chg C7.out (fun b hb _ hp => by have := HSZ.out; omega))
      have G7 := hik (chg4_set G6.out (w.heap.size + 1 + 1 + 1) (fun l => absurd l (by omega)) (.slice cs len caps) (.int .i64 (Qa i)) (.string (Qs i)) (.int .i64 (Qc i)))
      have u0 := F6.out.c0
      have u1 := F6.out.c1
      go_wp2
      exact bodyPost_ret (v := .tuple #[.slice cv i capv, .agg #[.int .i64 (X i).v.1, .int .i64 (X i).v.2], .agg #[.slice cs len caps, .int .i64 (Qa i), .string (Qs i), .int .i64 (Qc i)], .int .i64 0]) (by simp [results, Tryz.results27, go_sem, u0, u1, row4_s0 Y6.out (.slice cs len caps), row4_s1 Y6.out (.slice cs len caps) (.int .i64 (Qa i)), row4_s2 Y6.out (.slice cs len caps) (.int .i64 (Qa i)) (.string (Qs i)), row4_s3 Y6.out (.slice cs len caps) (.int .i64 (Qa i)) (.string (Qs i)) (.int .i64 (Qc i))]) rfl ⟨_, _, _, _, _, _, _, by rw [HC2.out], fun _ => ⟨rfl, O7.out.low (by have := HSZ.out; omega), rfl, rfl, rfl, rfl⟩, G7.out⟩

set_option maxHeartbeats 4000000 in
theorem sVerL_any (k : Int) (c : Option Addr) (m cap : Nat) (vars : Int) (hne : ¬ (m : Int) = vars) (x : El) (cs : Option Addr) (len caps : Nat) (at' : Int) (st : ByteArray) (ct : Int) (w : World) (code : Int) (HC2 : Hid (code = 18)) (R : Nat → El) (X : El) (a : Int) (s : ByteArray) (c9 : Int) :
    Calls Tryz.prog 27 #[.int .i64 k, .agg #[.int .i64 x.v.1, .int .i64 x.v.2], .slice c m cap, .int .i64 vars, .agg #[.slice cs len caps, .int .i64 at', .string st, .int .i64 ct]] w fun e w' => VfAns w m cs len caps code R X a s c9 e w' := by
  have HS : Hid ((((((w.alloc (.cells #[.int .i64 x.v.1, .int .i64 x.v.2] 31)).alloc (.cells #[.slice cs len caps, .int .i64 at', .string st, .int .i64 ct] 33)).alloc (.cells #[.int .i64 0, .int .i64 0] 31)).alloc (.cells #[.slice none 0 0, .int .i64 0, .string ⟨#[]⟩, .int .i64 0] 33))).rowIs (w.heap.size + 1) 33 4 (pv4 (.slice cs len caps) (.int .i64 at') (.string st) (.int .i64 ct))) := hik (by simpa using World.rowIs.alloc (World.rowIs.alloc (row4_new (w.alloc (.cells #[.int .i64 x.v.1, .int .i64 x.v.2] 31)) (.slice cs len caps) (.int .i64 at') (.string st) (.int .i64 ct) 33) (.cells #[.int .i64 0, .int .i64 0] 31)) (.cells #[.slice none 0 0, .int .i64 0, .string ⟨#[]⟩, .int .i64 0] 33))
  have HF : Hid (ElB (((((w.alloc (.cells #[.int .i64 x.v.1, .int .i64 x.v.2] 31)).alloc (.cells #[.slice cs len caps, .int .i64 at', .string st, .int .i64 ct] 33)).alloc (.cells #[.int .i64 0, .int .i64 0] 31)).alloc (.cells #[.slice none 0 0, .int .i64 0, .string ⟨#[]⟩, .int .i64 0] 33))) (w.heap.size + 1 + 1) El.zr) := hik (by simpa using (ElB.zero ((w.alloc (.cells #[.int .i64 x.v.1, .int .i64 x.v.2] 31)).alloc (.cells #[.slice cs len caps, .int .i64 at', .string st, .int .i64 ct] 33))).keep ((Chg.refl nob _).alloc (.cells #[.slice none 0 0, .int .i64 0, .string ⟨#[]⟩, .int .i64 0] 33)))
  have HY : Hid ((((((w.alloc (.cells #[.int .i64 x.v.1, .int .i64 x.v.2] 31)).alloc (.cells #[.slice cs len caps, .int .i64 at', .string st, .int .i64 ct] 33)).alloc (.cells #[.int .i64 0, .int .i64 0] 31)).alloc (.cells #[.slice none 0 0, .int .i64 0, .string ⟨#[]⟩, .int .i64 0] 33))).rowIs (w.heap.size + 1 + 1 + 1) 33 4 (pv4 (.slice none 0 0) (.int .i64 0) (.string ⟨#[]⟩) (.int .i64 0))) := hik (by simpa using row4_new (((w.alloc (.cells #[.int .i64 x.v.1, .int .i64 x.v.2] 31)).alloc (.cells #[.slice cs len caps, .int .i64 at', .string st, .int .i64 ct] 33)).alloc (.cells #[.int .i64 0, .int .i64 0] 31)) (.slice none 0 0) (.int .i64 0) (.string ⟨#[]⟩) (.int .i64 0) 33)
  have HG := hik (((((Chg.refl nob w).alloc (.cells #[.int .i64 x.v.1, .int .i64 x.v.2] 31)).alloc (.cells #[.slice cs len caps, .int .i64 at', .string st, .int .i64 ct] 33)).alloc (.cells #[.int .i64 0, .int .i64 0] 31)).alloc (.cells #[.slice none 0 0, .int .i64 0, .string ⟨#[]⟩, .int .i64 0] 33))
  go_enter Tryz.func27, Tryz.ntmps27
  go_upto_region 1 with fail
  generalize hE : ((((w.alloc (.cells #[.int .i64 x.v.1, .int .i64 x.v.2] 31)).alloc (.cells #[.slice cs len caps, .int .i64 at', .string st, .int .i64 ct] 33)).alloc (.cells #[.int .i64 0, .int .i64 0] 31)).alloc (.cells #[.slice none 0 0, .int .i64 0, .string ⟨#[]⟩, .int .i64 0] 33)) = W0 at HS HF HY HG ⊢
  clear hE
  go_upto_region 2 with fail
  have x0 : (W0).cell? ⟨w.heap.size + 1, 0, none⟩ = some (.slice cs len caps) := HS.out.cell (by omega)
  have x1 : (W0).cell? ⟨w.heap.size + 1, 1, none⟩ = some (.int .i64 at') := HS.out.cell (by omega)
  have x2 : (W0).cell? ⟨w.heap.size + 1, 2, none⟩ = some (.string st) := HS.out.cell (by omega)
  have x3 : (W0).cell? ⟨w.heap.size + 1, 3, none⟩ = some (.int .i64 ct) := HS.out.cell (by omega)
  have KN := hik ((Chg.refl nob W0).drew1)
  have KW := hik ((Chg.refl (fun b => b = w.heap.size + 1 + 1) W0).drew1)
  have SA := hik (fun (WW : World) (kW : Chg (fun b => b = w.heap.size + 1 + 1) W0 WW) => (show (WW.cell? ⟨w.heap.size + 1, 0, none⟩ = some (.slice cs len caps) ∧ WW.cell? ⟨w.heap.size + 1, 1, none⟩ = some (.int .i64 at') ∧ WW.cell? ⟨w.heap.size + 1, 2, none⟩ = some (.string st) ∧ WW.cell? ⟨w.heap.size + 1, 3, none⟩ = some (.int .i64 ct)) from ⟨kW.seeP x0 (by omega), kW.seeP x1 (by omega), kW.seeP x2 (by omega), kW.seeP x3 (by omega)⟩))
  refine wp_regionL (L := 5) (S := fun w' => w'.cell? ⟨w.heap.size + 1, 0, none⟩ = some (.slice cs len caps) ∧ w'.cell? ⟨w.heap.size + 1, 1, none⟩ = some (.int .i64 at') ∧ w'.cell? ⟨w.heap.size + 1, 2, none⟩ = some (.string st) ∧ w'.cell? ⟨w.heap.size + 1, 3, none⟩ = some (.int .i64 ct)) (by kernel_rfl) (SA.out _ KW.out) (fun hHeld => ?_)
  refine wpAnyL_take (i := 1) (v := ?_) rfl (by kernel_rfl) (by kernel_rfl) (by kernel_rfl) (fun _ _ _ h => h) (by rfl) (by kernel_rfl) (by kernel_rfl) (Or.inl ⟨by rfl, ?_⟩) (by assumption) ?_
  rotate_left 1
  · (intro w' hSw; (try dsimp only at hSw); go_simp; try with_reducible rfl)
  try simp only [Act.put, List.setIfInBounds_toArray, List.set_cons_zero, List.set_cons_succ, List.getElem_toArray, List.getElem_cons_zero, List.getElem_cons_succ]
  refine wpAnyL_take (i := 2) (v := ?_) rfl (by kernel_rfl) (by kernel_rfl) (by kernel_rfl) (fun _ _ _ h => h) (by rfl) (by kernel_rfl) (by kernel_rfl) (Or.inl ⟨by rfl, ?_⟩) (by assumption) ?_
  rotate_left 1
  · (intro w' hSw; (try dsimp only at hSw); go_simp; try with_reducible rfl)
  try simp only [Act.put, List.setIfInBounds_toArray, List.set_cons_zero, List.set_cons_succ, List.getElem_toArray, List.getElem_cons_zero, List.getElem_cons_succ]
  refine wpAnyL_ready (rs := [0]) (by kernel_rfl) (by simp) ?_
  refine AllReadyL.cons rfl (fun K hK => ?_) AllReadyL.nil
  simp only [List.getElem_toArray, List.getElem_cons_zero, List.getElem_cons_succ]
  go_simp
  replace KW := hik (KW.out.alloc (.cells #[] 31))
  replace KN := hik (KN.out.alloc (.cells #[] 31))
  refine hK.out _ _ (SA.out _ KW.out) (fun hHeld => ?_)
  clear hK K
  try simp only [Act.put, List.setIfInBounds_toArray, List.set_cons_zero, List.set_cons_succ, List.getElem_toArray, List.getElem_cons_zero, List.getElem_cons_succ]
  refine wpAnyL_take (i := 3) (v := ?_) rfl (by kernel_rfl) (by kernel_rfl) (by kernel_rfl) (fun _ _ _ h => h) (by rfl) (by kernel_rfl) (by kernel_rfl) (Or.inl ⟨by rfl, ?_⟩) (by assumption) ?_
  rotate_left 1
  · (intro w' hSw; (try dsimp only at hSw); go_simp; try with_reducible rfl)
  try simp only [Act.put, List.setIfInBounds_toArray, List.set_cons_zero, List.set_cons_succ, List.getElem_toArray, List.getElem_cons_zero, List.getElem_cons_succ]
  refine wpAnyL_ready (rs := [4]) (by kernel_rfl) (by simp) ?_
  refine AllReadyL.cons rfl (fun K hK => ?_) AllReadyL.nil
  have FN := hik (HF.out.keep KN.out)
  have g0 : W0.cell? ⟨w.heap.size + 1 + 1, 0, none⟩ = some (.int .i64 0) := HF.out.c0
  have g1 : W0.cell? ⟨w.heap.size + 1 + 1, 1, none⟩ = some (.int .i64 0) := HF.out.c1
  have f0 := HF.out.fz 0
  have f1 := HF.out.fz 1
  have ln : w.heap.size + 1 + 1 < W0.heap.size := HF.out.lt
  simp only [List.getElem_toArray, List.getElem_cons_zero, List.getElem_cons_succ]
  go_simp
  have KW6 : Hid (Chg (fun b => b = w.heap.size + 1 + 1) W0 ((((W0.setCell ⟨w.heap.size + 1 + 1, 0, none⟩ (.int .i64 0)).setCell ⟨w.heap.size + 1 + 1, 1, none⟩ (.int .i64 0)).alloc (.cells #[] 31)).drew)) := hik (((chg2_at (Chg.refl (fun b => b = w.heap.size + 1 + 1) W0) (w.heap.size + 1 + 1) (fun _ => rfl) 0 1 (.int .i64 0) (.int .i64 0)).alloc _).drew1)
  have F6 : Hid (ElB ((((W0.setCell ⟨w.heap.size + 1 + 1, 0, none⟩ (.int .i64 0)).setCell ⟨w.heap.size + 1 + 1, 1, none⟩ (.int .i64 0)).alloc (.cells #[] 31)).drew) (w.heap.size + 1 + 1) El.zr) := hik ((HF.out.set El.zr).keep (((Chg.refl nob _).alloc _).drew1))
  have Y6 := hik (rowIs_chg HY.out KW6.out (by omega))
  have G6 : Hid (Chg nob w ((((W0.setCell ⟨w.heap.size + 1 + 1, 0, none⟩ (.int .i64 0)).setCell ⟨w.heap.size + 1 + 1, 1, none⟩ (.int .i64 0)).alloc (.cells #[] 31)).drew)) := hik (((chg2_at HG.out (w.heap.size + 1 + 1) (fun l => absurd l (by omega)) 0 1 (.int .i64 0) (.int .i64 0)).alloc _).drew1)
  clear g0 g1 f0 f1 ln
  refine hK.out _ _ (SA.out _ KW6.out) (fun hHeld => ?_)
  clear hK K
  try simp only [Act.put, List.setIfInBounds_toArray, List.set_cons_zero, List.set_cons_succ, List.getElem_toArray, List.getElem_cons_zero, List.getElem_cons_succ]
  clear KW KN FN hHeld
  generalize hE : (((W0.setCell ⟨w.heap.size + 1 + 1, 0, none⟩ (.int .i64 0)).setCell ⟨w.heap.size + 1 + 1, 1, none⟩ (.int .i64 0)).alloc (.cells #[] 31)).drew = W6 at KW6 F6 Y6 G6 ⊢
  clear hE
  refine wpAnyL_ready (rs := [5]) (by kernel_rfl) (by simp) ?_
  refine AllReadyL.last rfl (by kernel_rfl) (fun K hK => ?_)
  have g0 : W6.cell? ⟨w.heap.size + 1 + 1 + 1, 0, none⟩ = some (.slice none 0 0) := Y6.out.cell (by omega)
  have f0 := Y6.out.frozen 0
  have g1 : W6.cell? ⟨w.heap.size + 1 + 1 + 1, 1, none⟩ = some (.int .i64 0) := Y6.out.cell (by omega)
  have f1 := Y6.out.frozen 1
  have g2 : W6.cell? ⟨w.heap.size + 1 + 1 + 1, 2, none⟩ = some (.string ⟨#[]⟩) := Y6.out.cell (by omega)
  have f2 := Y6.out.frozen 2
  have g3 : W6.cell? ⟨w.heap.size + 1 + 1 + 1, 3, none⟩ = some (.int .i64 0) := Y6.out.cell (by omega)
  have f3 := Y6.out.frozen 3
  have ln : w.heap.size + 1 + 1 + 1 < W6.heap.size := Y6.out.lt
  simp only [List.getElem_toArray, List.getElem_cons_zero, List.getElem_cons_succ]
  go_simp
  refine hK.out _ _ ?_
  clear hK K
  try simp only [Act.put, List.setIfInBounds_toArray, List.set_cons_zero, List.set_cons_succ, List.getElem_toArray, List.getElem_cons_zero, List.getElem_cons_succ]
  clear g0 g1 g2 g3 f0 f1 f2 f3 ln
  refine wpAnyL_take1 (i := 6) (v := ?_) rfl (by kernel_rfl) (by kernel_rfl) (by kernel_rfl) (fun _ _ _ h => h) (by rfl) (by rfl) (Or.inl ⟨by rfl, ?_⟩) ?_
  rotate_left 1
  · (intro w' hSw; (try dsimp only at hSw); go_simp; try with_reducible rfl)
  try simp only [Act.put, List.setIfInBounds_toArray, List.set_cons_zero, List.set_cons_succ, List.getElem_toArray, List.getElem_cons_zero, List.getElem_cons_succ]
  refine wpAnyL_done (by kernel_rfl) ?_ _
  have G7 := hik (chg4_set G6.out (w.heap.size + 1 + 1 + 1) (fun l => absurd l (by omega)) (.slice cs len caps) (.int .i64 at') (.string st) (.int .i64 ct))
  have u0 := F6.out.c0
  have u1 := F6.out.c1
  go_wp2
  exact bodyPost_ret (v := .tuple #[.slice (some ⟨W0.heap.size, 0, none⟩) 0 0, .agg #[.int .i64 El.zr.v.1, .int .i64 El.zr.v.2], .agg #[.slice cs len caps, .int .i64 at', .string st, .int .i64 ct], .int .i64 18]) (by simp [results, Tryz.results27, go_sem, u0, u1, row4_s0 Y6.out (.slice cs len caps), row4_s1 Y6.out (.slice cs len caps) (.int .i64 at'), row4_s2 Y6.out (.slice cs len caps) (.int .i64 at') (.string st), row4_s3 Y6.out (.slice cs len caps) (.int .i64 at') (.string st) (.int .i64 ct)]) rfl ⟨_, _, _, _, _, _, _, by rw [HC2.out], fun h0 => absurd h0 (by rw [HC2.out]; decide), G7.out⟩

theorem sVer_any {k : Nat} (hk : k = 1 ∨ k = 2) (c : Option Addr) (m cap : Nat) (vars : Int) (hv : vars ≤ 6) (L : Nat → Nat) (U : Nat → Nat → El) (x : El) (cs : Option Addr) (len caps : Nat) (f g : Nat → Int) (at' : Int) (st : ByteArray) (ct : Int) (w : World) (h : Hid (RowsL w c m L U)) (hL : Hid (∀ i, i < m → L i ≤ 8)) (hs : Hid (PairV w cs len f g)) (hl : len ≤ 64) (hok : okP f g len = true) (hst : st.size = 32) (a0 : 0 ≤ at') (a1 : at' + 6 ≤ 1000000) :
    Calls Tryz.prog 27 #[.int .i64 (k : Int), .agg #[.int .i64 x.v.1, .int .i64 x.v.2], .slice c m cap, .int .i64 vars, .agg #[.slice cs len caps, .int .i64 at', .string st, .int .i64 ct]] w fun e w' =>
      VfAns w m cs len caps (if (m : Int) = vars then vcd f g len (k + 2) L U ⟨x, at', st, ct⟩ 0 m else 18) (vpt f g len (k + 2) U ⟨x, at', st, ct⟩) (vst f g len (k + 2) U ⟨x, at', st, ct⟩ m).x (vst f g len (k + 2) U ⟨x, at', st, ct⟩ m).a (vst f g len (k + 2) U ⟨x, at', st, ct⟩ m).s (vst f g len (k + 2) U ⟨x, at', st, ct⟩ m).c e w' := by
  by_cases hm : (m : Int) = vars
  · subst hm
    rw [if_pos rfl]
    exact sVerT_any hk c m cap (by omega) L U (fun i => (vst f g len (k + 2) U ⟨x, at', st, ct⟩ i).x) (vpt f g len (k + 2) U ⟨x, at', st, ct⟩) (fun i => (vst f g len (k + 2) U ⟨x, at', st, ct⟩ i).a) (fun i => (vst f g len (k + 2) U ⟨x, at', st, ct⟩ i).s) (fun i => (vst f g len (k + 2) U ⟨x, at', st, ct⟩ i).c) _ (vcd f g len (k + 2) L U ⟨x, at', st, ct⟩) cs len caps f g w h hL hs hl
      (hik (fun i n => rfl)) (hik (fun i => by cases i <;> rfl)) (hik rfl) (hik (fun i => rfl)) (hik (fun i => rfl)) (hik (fun i => rfl)) (hik (fun i => rfl)) (hik (fun i => vsr_v hok (k + 2) (U i) _)) (hik (fun i => vst_size hst i)) (hik (fun i hi => by
        have q := vst_a (f := f) (g := g) (len := len) (D := k + 2) (U := U) (q := ⟨x, at', st, ct⟩) i
        have q2 : at' ≤ (vst f g len (k + 2) U ⟨x, at', st, ct⟩ i).a ∧ (vst f g len (k + 2) U ⟨x, at', st, ct⟩ i).a ≤ at' + i := q
        omega))
  · rw [if_neg hm]
    exact sVerL_any (k : Int) c m cap vars hm x cs len caps at' st ct w 18 (hik rfl) _ _ _ _ _

end Go.Proofs.YtccgjbdjbgefiaaGreatDoor

namespace Go.Proofs.YtccgjbdjbgefiaaGreatDoor
open Go.ChangeShapes Go.WideShapes Go.ChangeAt Go.RowKit
set_option linter.unusedVariables false
set_option maxRecDepth 100000
set_option linter.unusedSimpArgs false

/-- SumVerify's code. -/
def svc8 (K x1 x2 : Int) (m : Nat) (L : Nat → Nat) (f g : Nat → Nat → Int) (vars : Int) (fs gs : Nat → Int) (len : Nat) (at' : Int) (st : ByteArray) (ct : Int) : Int :=
  if rkc m L f g = 0 then (if eok x1 x2 = true ∧ sokb fs gs len at' st ct = true then (if kdb K = true ∧ inW vars 0 6 = true then (if spb at' ct 6 = true then 6 else (if (m : Int) = vars then vcd fs gs len (K.toNat + 2) L (fun i => elF (f i) (g i)) ⟨elP x1 x2, at', st, ct⟩ 0 m else 18)) else 4) else 1) else rkc m L f g
/-- A point, a claim, a source and a code, to be read. -/
def VxAns (w : World) (q : Int) (nP nS : Nat) (R : Nat → El) (fs gs : Nat → Int) (y1 y2 a : Int) (s : ByteArray) (c : Int) (e : Ending) (w' : World) : Prop :=
  ∃ (cP : Option Addr) (capP : Nat) (cS : Option Addr) (capS : Nat), e = .returned (.tuple #[.slice cP nP capP, .agg #[.int .i64 y1, .int .i64 y2], .agg #[.slice cS nS capS, .int .i64 a, .string s, .int .i64 c], .int .i64 q]) ∧ OwnE w' w.heap.size cP nP (cA R) (cB R) ∧ OwnE w' w.heap.size cS nS fs gs ∧ Chg nob w w'
theorem VxAns.zero {w w' : World} {q q' : Int} {nP nS : Nat} {R : Nat → El} {fs gs : Nat → Int} {y1 y2 a : Int} {s : ByteArray} {c : Int} {e : Ending} {c1 : Option Addr} {p1 : Nat} (hq : q = q') (h0 : ¬ q' = 0) (he : e = .returned (.tuple #[.slice c1 0 p1, .agg #[.int .i64 0, .int .i64 0], .agg #[.slice none 0 0, .int .i64 0, .string ⟨#[]⟩, .int .i64 0], .int .i64 q'])) (k : Chg nob w w') :
    VxAns w q (scn q nP) (scn q nS) R fs gs (scI q y1) (scI q y2) (scI q a) (scS q s) (scI q c) e w' := by
  subst hq
  have e1 : ∀ n, scn q n = 0 := fun n => if_neg h0
  have e2 : ∀ a, scI q a = 0 := fun a => if_neg h0
  have e3 : ∀ s, scS q s = ⟨#[]⟩ := fun s => if_neg h0
  rw [e1, e1, e2, e2, e2, e2, e3]
  exact ⟨c1, p1, none, 0, he, .inl rfl, .inl rfl, k⟩
theorem VxAns.full {w w' : World} {q : Int} {nP nS : Nat} {R : Nat → El} {fs gs : Nat → Int} {y1 y2 a : Int} {s : ByteArray} {c : Int} {e : Ending} {c1 c2 : Option Addr} {p1 p2 : Nat} (hq : q = 0) (he : e = .returned (.tuple #[.slice c1 nP p1, .agg #[.int .i64 y1, .int .i64 y2], .agg #[.slice c2 nS p2, .int .i64 a, .string s, .int .i64 c], .int .i64 0])) (h1 : OwnE w' w.heap.size c1 nP (cA R) (cB R)) (h2 : OwnE w' w.heap.size c2 nS fs gs) (k : Chg nob w w') :
    VxAns w q (scn q nP) (scn q nS) R fs gs (scI q y1) (scI q y2) (scI q a) (scS q s) (scI q c) e w' := by
  subst hq
  exact ⟨c1, p1, c2, p2, he, h1, h2, k⟩

set_option maxHeartbeats 4000000 in
theorem sVerX_any (K x1 x2 : Int) (c : Option Addr) (m cap : Nat) (A : Nat → Option Addr) (L C : Nat → Nat) (f g : Nat → Nat → Int) (vars : Int) (cs : Option Addr) (len caps : Nat) (fs gs : Nat → Int) (at' : Int) (st : ByteArray) (ct : Int) (w : World) (h : Hid (RowsV w c m A L C f g)) (hL : Hid (∀ i, i < m → L i ≤ 1099511627776)) (hn : m ≤ 1099511627776) (hs : Hid (PairV w cs len fs gs)) (hl : (len : Int) ≤ 9223372036854775807) (hst : (st.size : Int) ≤ 9223372036854775807) :
    Calls Tryz.prog 6 #[.int .i64 K, .agg #[.int .i64 x1, .int .i64 x2], .slice c m cap, .int .i64 vars, .agg #[.slice cs len caps, .int .i64 at', .string st, .int .i64 ct]] w fun e w' => VxAns w (svc8 K x1 x2 m L f g vars fs gs len at' st ct) (scn (svc8 K x1 x2 m L f g vars fs gs len at' st ct) m) (scn (svc8 K x1 x2 m L f g vars fs gs len at' st ct) len) (vpt fs gs len (K.toNat + 2) (fun i => elF (f i) (g i)) ⟨elP x1 x2, at', st, ct⟩) fs gs (scI (svc8 K x1 x2 m L f g vars fs gs len at' st ct) (vst fs gs len (K.toNat + 2) (fun i => elF (f i) (g i)) ⟨elP x1 x2, at', st, ct⟩ m).x.v.1) (scI (svc8 K x1 x2 m L f g vars fs gs len at' st ct) (vst fs gs len (K.toNat + 2) (fun i => elF (f i) (g i)) ⟨elP x1 x2, at', st, ct⟩ m).x.v.2) (scI (svc8 K x1 x2 m L f g vars fs gs len at' st ct) (vst fs gs len (K.toNat + 2) (fun i => elF (f i) (g i)) ⟨elP x1 x2, at', st, ct⟩ m).a) (scS (svc8 K x1 x2 m L f g vars fs gs len at' st ct) (vst fs gs len (K.toNat + 2) (fun i => elF (f i) (g i)) ⟨elP x1 x2, at', st, ct⟩ m).s) (scI (svc8 K x1 x2 m L f g vars fs gs len at' st ct) (vst fs gs len (K.toNat + 2) (fun i => elF (f i) (g i)) ⟨elP x1 x2, at', st, ct⟩ m).c) e w' := by
  have E0 : Hid (((((w.alloc (.cells #[.int .i64 x1, .int .i64 x2] 31)).alloc (.cells #[.slice cs len caps, .int .i64 at', .string st, .int .i64 ct] 33)).alloc (.cells #[.int .i64 0, .int .i64 0] 31)).alloc (.cells #[.slice none 0 0, .int .i64 0, .string ⟨#[]⟩, .int .i64 0] 33)).rowIs w.heap.size 31 2 (pv2 (.int .i64 x1) (.int .i64 x2))) := hik (World.rowIs.alloc (World.rowIs.alloc (World.rowIs.alloc (row2_new w _ _ _) _) _) _)
  have S0 : Hid (((((w.alloc (.cells #[.int .i64 x1, .int .i64 x2] 31)).alloc (.cells #[.slice cs len caps, .int .i64 at', .string st, .int .i64 ct] 33)).alloc (.cells #[.int .i64 0, .int .i64 0] 31)).alloc (.cells #[.slice none 0 0, .int .i64 0, .string ⟨#[]⟩, .int .i64 0] 33)).rowIs (w.heap.size + 1) 33 4 (pv4 (.slice cs len caps) (.int .i64 at') (.string st) (.int .i64 ct))) := hik (by simpa using World.rowIs.alloc (World.rowIs.alloc (row4_new (w.alloc (.cells #[.int .i64 x1, .int .i64 x2] 31)) (.slice cs len caps) (.int .i64 at') (.string st) (.int .i64 ct) 33) (.cells #[.int .i64 0, .int .i64 0] 31)) (.cells #[.slice none 0 0, .int .i64 0, .string ⟨#[]⟩, .int .i64 0] 33))
  have F0 : Hid (ElB ((((w.alloc (.cells #[.int .i64 x1, .int .i64 x2] 31)).alloc (.cells #[.slice cs len caps, .int .i64 at', .string st, .int .i64 ct] 33)).alloc (.cells #[.int .i64 0, .int .i64 0] 31)).alloc (.cells #[.slice none 0 0, .int .i64 0, .string ⟨#[]⟩, .int .i64 0] 33)) (w.heap.size + 1 + 1) El.zr) := hik (by simpa using (ElB.zero ((w.alloc (.cells #[.int .i64 x1, .int .i64 x2] 31)).alloc (.cells #[.slice cs len caps, .int .i64 at', .string st, .int .i64 ct] 33))).keep ((Chg.refl nob _).alloc (.cells #[.slice none 0 0, .int .i64 0, .string ⟨#[]⟩, .int .i64 0] 33)))
  have Z0 : Hid (((((w.alloc (.cells #[.int .i64 x1, .int .i64 x2] 31)).alloc (.cells #[.slice cs len caps, .int .i64 at', .string st, .int .i64 ct] 33)).alloc (.cells #[.int .i64 0, .int .i64 0] 31)).alloc (.cells #[.slice none 0 0, .int .i64 0, .string ⟨#[]⟩, .int .i64 0] 33)).rowIs (w.heap.size + 1 + 1 + 1) 33 4 (pv4 (.slice none 0 0) (.int .i64 0) (.string ⟨#[]⟩) (.int .i64 0))) := hik (by simpa using row4_new (((w.alloc (.cells #[.int .i64 x1, .int .i64 x2] 31)).alloc (.cells #[.slice cs len caps, .int .i64 at', .string st, .int .i64 ct] 33)).alloc (.cells #[.int .i64 0, .int .i64 0] 31)) (.slice none 0 0) (.int .i64 0) (.string ⟨#[]⟩) (.int .i64 0) 33)
  have G0 : Hid (Chg nob w ((((w.alloc (.cells #[.int .i64 x1, .int .i64 x2] 31)).alloc (.cells #[.slice cs len caps, .int .i64 at', .string st, .int .i64 ct] 33)).alloc (.cells #[.int .i64 0, .int .i64 0] 31)).alloc (.cells #[.slice none 0 0, .int .i64 0, .string ⟨#[]⟩, .int .i64 0] 33))) := hik (((((Chg.refl nob w).alloc _).alloc _).alloc _).alloc _)
  obtain ⟨q, hq⟩ : ∃ q, q = (svc8 K x1 x2 m L f g vars fs gs len at' st ct) := ⟨_, rfl⟩
  have HQ := hik hq
  clear hq
  rw [← HQ.out]
  go_enter Tryz.func6, Tryz.ntmps6
  go_upto_region 1 with fail
  generalize hE : ((((w.alloc (.cells #[.int .i64 x1, .int .i64 x2] 31)).alloc (.cells #[.slice cs len caps, .int .i64 at', .string st, .int .i64 ct] 33)).alloc (.cells #[.int .i64 0, .int .i64 0] 31)).alloc (.cells #[.slice none 0 0, .int .i64 0, .string ⟨#[]⟩, .int .i64 0] 33)) = W0 at E0 S0 F0 Z0 G0 ⊢
  clear hE
  by_cases h4 : 4096 < m
  · have h4' : 4096 < (m : Int) := by omega
    have HA := hik (show rkc m L f g = 2 by unfold rkc; rw [if_pos h4])
    have HC := hik (show q = 2 by rw [HQ.out]; unfold svc8; rw [HA.out]; rfl)
    clear HQ
    have y0 : (W0).cell? ⟨w.heap.size + 1 + 1 + 1, 0, none⟩ = some (.slice none 0 0) := Z0.out.cell (by omega)
    have y1 : (W0).cell? ⟨w.heap.size + 1 + 1 + 1, 1, none⟩ = some (.int .i64 0) := Z0.out.cell (by omega)
    have y2 : (W0).cell? ⟨w.heap.size + 1 + 1 + 1, 2, none⟩ = some (.string ⟨#[]⟩) := Z0.out.cell (by omega)
    have y3 : (W0).cell? ⟨w.heap.size + 1 + 1 + 1, 3, none⟩ = some (.int .i64 0) := Z0.out.cell (by omega)
    have v0 := Z0.out.frozen 0
    have v1 := Z0.out.frozen 1
    have v2 := Z0.out.frozen 2
    have v3 := Z0.out.frozen 3
    have g0 : W0.cell? ⟨w.heap.size + 1 + 1, 0, none⟩ = some (.int .i64 0) := F0.out.c0
    have g1 : W0.cell? ⟨w.heap.size + 1 + 1, 1, none⟩ = some (.int .i64 0) := F0.out.c1
    have f0 := F0.out.fz 0
    have f1 := F0.out.fz 1
    have zz : w.heap.size + 1 + 1 + 1 < W0.heap.size := Z0.out.lt
    have zz2 : w.heap.size + 1 + 1 < W0.heap.size := by omega
    have zz3 : w.heap.size + 1 < W0.heap.size := by omega
    have zz4 : w.heap.size < W0.heap.size := by omega
    go_wp2
    have KB := hik (chg2_at (Chg.refl (fun b => b = w.heap.size + 1 + 1) W0) (w.heap.size + 1 + 1) (fun _ => rfl) 0 1 (.int .i64 0) (.int .i64 0))
    have KD := hik (chg4_set (Chg.refl (fun b => b = w.heap.size + 1 + 1 + 1) ((W0.setCell ⟨w.heap.size + 1 + 1, 0, none⟩ (.int .i64 0)).setCell ⟨w.heap.size + 1 + 1, 1, none⟩ (.int .i64 0))) (w.heap.size + 1 + 1 + 1) (fun _ => rfl) (.slice none 0 0) (.int .i64 0) (.string ⟨#[]⟩) (.int .i64 0))
    have CE := hik ((chg4_set (chg2_at G0.out (w.heap.size + 1 + 1) (fun l => absurd l (by omega)) 0 1 (.int .i64 0) (.int .i64 0)) (w.heap.size + 1 + 1 + 1) (fun l => absurd l (by omega)) (.slice none 0 0) (.int .i64 0) (.string ⟨#[]⟩) (.int .i64 0)).alloc (.cells #[] 31))
    have ZE := hik (World.rowIs.alloc (row4_set (rowIs_chg Z0.out KB.out (by omega)) (.slice none 0 0) (.int .i64 0) (.string ⟨#[]⟩) (.int .i64 0)) (.cells #[] 31))
    have FE := hik (((F0.out.set El.zr).chg KD.out (by omega)).keep ((Chg.refl nob _).alloc (.cells #[] 31)))
    clear y0 y1 y2 y3 v0 v1 v2 v3 g0 g1 f0 f1 KB KD
    generalize hE : (((((((W0.setCell ⟨w.heap.size + 1 + 1, 0, none⟩ (.int .i64 0)).setCell ⟨w.heap.size + 1 + 1, 1, none⟩ (.int .i64 0)).setCell ⟨w.heap.size + 1 + 1 + 1, 0, none⟩ (.slice none 0 0)).setCell ⟨w.heap.size + 1 + 1 + 1, 1, none⟩ (.int .i64 0)).setCell ⟨w.heap.size + 1 + 1 + 1, 2, none⟩ (.string ⟨#[]⟩)).setCell ⟨w.heap.size + 1 + 1 + 1, 3, none⟩ (.int .i64 0)).alloc (.cells #[] 31)) = W9 at CE ZE FE ⊢
    clear hE
    have u0 : (W9).cell? ⟨w.heap.size + 1 + 1 + 1, 0, none⟩ = some (.slice none 0 0) := ZE.out.cell (by omega)
    have u1 : (W9).cell? ⟨w.heap.size + 1 + 1 + 1, 1, none⟩ = some (.int .i64 0) := ZE.out.cell (by omega)
    have u2 : (W9).cell? ⟨w.heap.size + 1 + 1 + 1, 2, none⟩ = some (.string ⟨#[]⟩) := ZE.out.cell (by omega)
    have u3 : (W9).cell? ⟨w.heap.size + 1 + 1 + 1, 3, none⟩ = some (.int .i64 0) := ZE.out.cell (by omega)
    have r0 : W9.cell? ⟨w.heap.size + 1 + 1, 0, none⟩ = some (.int .i64 0) := FE.out.c0
    have r1 : W9.cell? ⟨w.heap.size + 1 + 1, 1, none⟩ = some (.int .i64 0) := FE.out.c1
    exact bodyPost_ret (v := .tuple #[.slice (some ⟨W0.heap.size, 0, none⟩) 0 0, .agg #[.int .i64 0, .int .i64 0], .agg #[.slice none 0 0, .int .i64 0, .string ⟨#[]⟩, .int .i64 0], .int .i64 2]) (by simp [results, Tryz.results6, go_sem, u0, u1, u2, u3, r0, r1]) rfl (VxAns.zero HC.out (by decide) rfl CE.out)
  have h4' : ¬ 4096 < (m : Int) := by omega
  go_wp2_with fail
  refine (sRnds_any c m cap A L C f g _ (hik (RowsV.keep h.out G0.out)) hL hn).mono ?_
  rintro e W1 ⟨he, k1⟩
  have E1 := hik (rowIs_keep E0.out k1)
  have S1 := hik (rowIs_keep S0.out k1)
  have F1 := hik (F0.out.keep k1)
  have Z1 := hik (rowIs_keep Z0.out k1)
  have G1 := hik (G0.out.trans k1)
  clear k1 E0 S0 F0 Z0 G0
  by_cases ha : ¬ rkc m L f g = 0
  · obtain ⟨qa, hqa⟩ : ∃ qa, qa = rkc m L f g := ⟨_, rfl⟩
    have HC := hik (show q = qa by rw [HQ.out]; unfold svc8; rw [if_neg ha, hqa])
    rw [← hqa] at he ha
    subst he
    have hb : (qa == 0) = false := by simpa using ha
    clear hqa HQ
    have y0 : (W1).cell? ⟨w.heap.size + 1 + 1 + 1, 0, none⟩ = some (.slice none 0 0) := Z1.out.cell (by omega)
    have y1 : (W1).cell? ⟨w.heap.size + 1 + 1 + 1, 1, none⟩ = some (.int .i64 0) := Z1.out.cell (by omega)
    have y2 : (W1).cell? ⟨w.heap.size + 1 + 1 + 1, 2, none⟩ = some (.string ⟨#[]⟩) := Z1.out.cell (by omega)
    have y3 : (W1).cell? ⟨w.heap.size + 1 + 1 + 1, 3, none⟩ = some (.int .i64 0) := Z1.out.cell (by omega)
    have v0 := Z1.out.frozen 0
    have v1 := Z1.out.frozen 1
    have v2 := Z1.out.frozen 2
    have v3 := Z1.out.frozen 3
    have g0 : W1.cell? ⟨w.heap.size + 1 + 1, 0, none⟩ = some (.int .i64 0) := F1.out.c0
    have g1 : W1.cell? ⟨w.heap.size + 1 + 1, 1, none⟩ = some (.int .i64 0) := F1.out.c1
    have f0 := F1.out.fz 0
    have f1 := F1.out.fz 1
    have zz : w.heap.size + 1 + 1 + 1 < W1.heap.size := Z1.out.lt
    have zz2 : w.heap.size + 1 + 1 < W1.heap.size := by omega
    have zz3 : w.heap.size + 1 < W1.heap.size := by omega
    have zz4 : w.heap.size < W1.heap.size := by omega
    go_wp2
    have KB := hik (chg2_at (Chg.refl (fun b => b = w.heap.size + 1 + 1) W1) (w.heap.size + 1 + 1) (fun _ => rfl) 0 1 (.int .i64 0) (.int .i64 0))
    have KD := hik (chg4_set (Chg.refl (fun b => b = w.heap.size + 1 + 1 + 1) ((W1.setCell ⟨w.heap.size + 1 + 1, 0, none⟩ (.int .i64 0)).setCell ⟨w.heap.size + 1 + 1, 1, none⟩ (.int .i64 0))) (w.heap.size + 1 + 1 + 1) (fun _ => rfl) (.slice none 0 0) (.int .i64 0) (.string ⟨#[]⟩) (.int .i64 0))
    have CE := hik ((chg4_set (chg2_at G1.out (w.heap.size + 1 + 1) (fun l => absurd l (by omega)) 0 1 (.int .i64 0) (.int .i64 0)) (w.heap.size + 1 + 1 + 1) (fun l => absurd l (by omega)) (.slice none 0 0) (.int .i64 0) (.string ⟨#[]⟩) (.int .i64 0)).alloc (.cells #[] 31))
    have ZE := hik (World.rowIs.alloc (row4_set (rowIs_chg Z1.out KB.out (by omega)) (.slice none 0 0) (.int .i64 0) (.string ⟨#[]⟩) (.int .i64 0)) (.cells #[] 31))
    have FE := hik (((F1.out.set El.zr).chg KD.out (by omega)).keep ((Chg.refl nob _).alloc (.cells #[] 31)))
    clear y0 y1 y2 y3 v0 v1 v2 v3 g0 g1 f0 f1 KB KD
    generalize hE : (((((((W1.setCell ⟨w.heap.size + 1 + 1, 0, none⟩ (.int .i64 0)).setCell ⟨w.heap.size + 1 + 1, 1, none⟩ (.int .i64 0)).setCell ⟨w.heap.size + 1 + 1 + 1, 0, none⟩ (.slice none 0 0)).setCell ⟨w.heap.size + 1 + 1 + 1, 1, none⟩ (.int .i64 0)).setCell ⟨w.heap.size + 1 + 1 + 1, 2, none⟩ (.string ⟨#[]⟩)).setCell ⟨w.heap.size + 1 + 1 + 1, 3, none⟩ (.int .i64 0)).alloc (.cells #[] 31)) = W9 at CE ZE FE ⊢
    clear hE
    have u0 : (W9).cell? ⟨w.heap.size + 1 + 1 + 1, 0, none⟩ = some (.slice none 0 0) := ZE.out.cell (by omega)
    have u1 : (W9).cell? ⟨w.heap.size + 1 + 1 + 1, 1, none⟩ = some (.int .i64 0) := ZE.out.cell (by omega)
    have u2 : (W9).cell? ⟨w.heap.size + 1 + 1 + 1, 2, none⟩ = some (.string ⟨#[]⟩) := ZE.out.cell (by omega)
    have u3 : (W9).cell? ⟨w.heap.size + 1 + 1 + 1, 3, none⟩ = some (.int .i64 0) := ZE.out.cell (by omega)
    have r0 : W9.cell? ⟨w.heap.size + 1 + 1, 0, none⟩ = some (.int .i64 0) := FE.out.c0
    have r1 : W9.cell? ⟨w.heap.size + 1 + 1, 1, none⟩ = some (.int .i64 0) := FE.out.c1
    exact bodyPost_ret (v := .tuple #[.slice (some ⟨W1.heap.size, 0, none⟩) 0 0, .agg #[.int .i64 0, .int .i64 0], .agg #[.slice none 0 0, .int .i64 0, .string ⟨#[]⟩, .int .i64 0], .int .i64 qa]) (by simp [results, Tryz.results6, go_sem, u0, u1, u2, u3, r0, r1]) rfl (VxAns.zero HC.out (ha) rfl CE.out)
  replace ha : rkc m L f g = 0 := Classical.byContradiction ha
  rw [ha] at he
  subst he
  have e0 : W1.cell? ⟨w.heap.size, 0, none⟩ = some (.int .i64 x1) := E1.out.cell (by omega)
  have e1 : W1.cell? ⟨w.heap.size, 1, none⟩ = some (.int .i64 x2) := E1.out.cell (by omega)
  have x0 : W1.cell? ⟨w.heap.size + 1, 0, none⟩ = some (.slice cs len caps) := S1.out.cell (by omega)
  have x1' : W1.cell? ⟨w.heap.size + 1, 1, none⟩ = some (.int .i64 at') := S1.out.cell (by omega)
  have x2' : W1.cell? ⟨w.heap.size + 1, 2, none⟩ = some (.string st) := S1.out.cell (by omega)
  have x3 : W1.cell? ⟨w.heap.size + 1, 3, none⟩ = some (.int .i64 ct) := S1.out.cell (by omega)
  have zS : w.heap.size + 1 < W1.heap.size := S1.out.lt
  have zE : w.heap.size < W1.heap.size := by omega
  go_wp2_with fail
  refine (sExtOK_any x1 x2 _).mono ?_
  rintro e W2 ⟨he, k1⟩
  have E2 := hik (rowIs_keep E1.out k1)
  have S2 := hik (rowIs_keep S1.out k1)
  have F2 := hik (F1.out.keep k1)
  have Z2 := hik (rowIs_keep Z1.out k1)
  have G2 := hik (G1.out.trans k1)
  clear k1 E1 S1 F1 Z1 G1
  clear x0 x1' x2' x3 e0 e1 zS zE
  cases hx : eok x1 x2
  · have HC := hik (show q = 1 by rw [HQ.out]; unfold svc8; rw [if_pos ha, if_neg (by rw [hx]; simp)])
    rw [hx] at he
    subst he
    clear HQ
    have y0 : (W2).cell? ⟨w.heap.size + 1 + 1 + 1, 0, none⟩ = some (.slice none 0 0) := Z2.out.cell (by omega)
    have y1 : (W2).cell? ⟨w.heap.size + 1 + 1 + 1, 1, none⟩ = some (.int .i64 0) := Z2.out.cell (by omega)
    have y2 : (W2).cell? ⟨w.heap.size + 1 + 1 + 1, 2, none⟩ = some (.string ⟨#[]⟩) := Z2.out.cell (by omega)
    have y3 : (W2).cell? ⟨w.heap.size + 1 + 1 + 1, 3, none⟩ = some (.int .i64 0) := Z2.out.cell (by omega)
    have v0 := Z2.out.frozen 0
    have v1 := Z2.out.frozen 1
    have v2 := Z2.out.frozen 2
    have v3 := Z2.out.frozen 3
    have g0 : W2.cell? ⟨w.heap.size + 1 + 1, 0, none⟩ = some (.int .i64 0) := F2.out.c0
    have g1 : W2.cell? ⟨w.heap.size + 1 + 1, 1, none⟩ = some (.int .i64 0) := F2.out.c1
    have f0 := F2.out.fz 0
    have f1 := F2.out.fz 1
    have zz : w.heap.size + 1 + 1 + 1 < W2.heap.size := Z2.out.lt
    have zz2 : w.heap.size + 1 + 1 < W2.heap.size := by omega
    have zz3 : w.heap.size + 1 < W2.heap.size := by omega
    have zz4 : w.heap.size < W2.heap.size := by omega
    go_wp2
    have KB := hik (chg2_at (Chg.refl (fun b => b = w.heap.size + 1 + 1) W2) (w.heap.size + 1 + 1) (fun _ => rfl) 0 1 (.int .i64 0) (.int .i64 0))
    have KD := hik (chg4_set (Chg.refl (fun b => b = w.heap.size + 1 + 1 + 1) ((W2.setCell ⟨w.heap.size + 1 + 1, 0, none⟩ (.int .i64 0)).setCell ⟨w.heap.size + 1 + 1, 1, none⟩ (.int .i64 0))) (w.heap.size + 1 + 1 + 1) (fun _ => rfl) (.slice none 0 0) (.int .i64 0) (.string ⟨#[]⟩) (.int .i64 0))
    have CE := hik ((chg4_set (chg2_at G2.out (w.heap.size + 1 + 1) (fun l => absurd l (by omega)) 0 1 (.int .i64 0) (.int .i64 0)) (w.heap.size + 1 + 1 + 1) (fun l => absurd l (by omega)) (.slice none 0 0) (.int .i64 0) (.string ⟨#[]⟩) (.int .i64 0)).alloc (.cells #[] 31))
    have ZE := hik (World.rowIs.alloc (row4_set (rowIs_chg Z2.out KB.out (by omega)) (.slice none 0 0) (.int .i64 0) (.string ⟨#[]⟩) (.int .i64 0)) (.cells #[] 31))
    have FE := hik (((F2.out.set El.zr).chg KD.out (by omega)).keep ((Chg.refl nob _).alloc (.cells #[] 31)))
    clear y0 y1 y2 y3 v0 v1 v2 v3 g0 g1 f0 f1 KB KD
    generalize hE : (((((((W2.setCell ⟨w.heap.size + 1 + 1, 0, none⟩ (.int .i64 0)).setCell ⟨w.heap.size + 1 + 1, 1, none⟩ (.int .i64 0)).setCell ⟨w.heap.size + 1 + 1 + 1, 0, none⟩ (.slice none 0 0)).setCell ⟨w.heap.size + 1 + 1 + 1, 1, none⟩ (.int .i64 0)).setCell ⟨w.heap.size + 1 + 1 + 1, 2, none⟩ (.string ⟨#[]⟩)).setCell ⟨w.heap.size + 1 + 1 + 1, 3, none⟩ (.int .i64 0)).alloc (.cells #[] 31)) = W9 at CE ZE FE ⊢
    clear hE
    have u0 : (W9).cell? ⟨w.heap.size + 1 + 1 + 1, 0, none⟩ = some (.slice none 0 0) := ZE.out.cell (by omega)
    have u1 : (W9).cell? ⟨w.heap.size + 1 + 1 + 1, 1, none⟩ = some (.int .i64 0) := ZE.out.cell (by omega)
    have u2 : (W9).cell? ⟨w.heap.size + 1 + 1 + 1, 2, none⟩ = some (.string ⟨#[]⟩) := ZE.out.cell (by omega)
    have u3 : (W9).cell? ⟨w.heap.size + 1 + 1 + 1, 3, none⟩ = some (.int .i64 0) := ZE.out.cell (by omega)
    have r0 : W9.cell? ⟨w.heap.size + 1 + 1, 0, none⟩ = some (.int .i64 0) := FE.out.c0
    have r1 : W9.cell? ⟨w.heap.size + 1 + 1, 1, none⟩ = some (.int .i64 0) := FE.out.c1
    exact bodyPost_ret (v := .tuple #[.slice (some ⟨W2.heap.size, 0, none⟩) 0 0, .agg #[.int .i64 0, .int .i64 0], .agg #[.slice none 0 0, .int .i64 0, .string ⟨#[]⟩, .int .i64 0], .int .i64 1]) (by simp [results, Tryz.results6, go_sem, u0, u1, u2, u3, r0, r1]) rfl (VxAns.zero HC.out (by decide) rfl CE.out)
  rw [hx] at he
  subst he
  have e0 : W2.cell? ⟨w.heap.size, 0, none⟩ = some (.int .i64 x1) := E2.out.cell (by omega)
  have e1 : W2.cell? ⟨w.heap.size, 1, none⟩ = some (.int .i64 x2) := E2.out.cell (by omega)
  have x0 : W2.cell? ⟨w.heap.size + 1, 0, none⟩ = some (.slice cs len caps) := S2.out.cell (by omega)
  have x1' : W2.cell? ⟨w.heap.size + 1, 1, none⟩ = some (.int .i64 at') := S2.out.cell (by omega)
  have x2' : W2.cell? ⟨w.heap.size + 1, 2, none⟩ = some (.string st) := S2.out.cell (by omega)
  have x3 : W2.cell? ⟨w.heap.size + 1, 3, none⟩ = some (.int .i64 ct) := S2.out.cell (by omega)
  have zS : w.heap.size + 1 < W2.heap.size := S2.out.lt
  have zE : w.heap.size < W2.heap.size := by omega
  go_wp2_with fail
  refine (sSourceOK_any cs len caps at' st ct fs gs _ (hik (hs.out.keep G2.out)) hl hst).mono ?_
  rintro e W3 ⟨he, k1⟩
  have E3 := hik (rowIs_keep E2.out k1)
  have S3 := hik (rowIs_keep S2.out k1)
  have F3 := hik (F2.out.keep k1)
  have Z3 := hik (rowIs_keep Z2.out k1)
  have G3 := hik (G2.out.trans k1)
  clear k1 E2 S2 F2 Z2 G2
  clear x0 x1' x2' x3 e0 e1 zS zE
  cases hb : sokb fs gs len at' st ct
  · have HC := hik (show q = 1 by rw [HQ.out]; unfold svc8; rw [if_pos ha, if_neg (by rw [hb]; simp)])
    rw [hb] at he
    subst he
    clear HQ
    have y0 : (W3).cell? ⟨w.heap.size + 1 + 1 + 1, 0, none⟩ = some (.slice none 0 0) := Z3.out.cell (by omega)
    have y1 : (W3).cell? ⟨w.heap.size + 1 + 1 + 1, 1, none⟩ = some (.int .i64 0) := Z3.out.cell (by omega)
    have y2 : (W3).cell? ⟨w.heap.size + 1 + 1 + 1, 2, none⟩ = some (.string ⟨#[]⟩) := Z3.out.cell (by omega)
    have y3 : (W3).cell? ⟨w.heap.size + 1 + 1 + 1, 3, none⟩ = some (.int .i64 0) := Z3.out.cell (by omega)
    have v0 := Z3.out.frozen 0
    have v1 := Z3.out.frozen 1
    have v2 := Z3.out.frozen 2
    have v3 := Z3.out.frozen 3
    have g0 : W3.cell? ⟨w.heap.size + 1 + 1, 0, none⟩ = some (.int .i64 0) := F3.out.c0
    have g1 : W3.cell? ⟨w.heap.size + 1 + 1, 1, none⟩ = some (.int .i64 0) := F3.out.c1
    have f0 := F3.out.fz 0
    have f1 := F3.out.fz 1
    have zz : w.heap.size + 1 + 1 + 1 < W3.heap.size := Z3.out.lt
    have zz2 : w.heap.size + 1 + 1 < W3.heap.size := by omega
    have zz3 : w.heap.size + 1 < W3.heap.size := by omega
    have zz4 : w.heap.size < W3.heap.size := by omega
    go_wp2
    have KB := hik (chg2_at (Chg.refl (fun b => b = w.heap.size + 1 + 1) W3) (w.heap.size + 1 + 1) (fun _ => rfl) 0 1 (.int .i64 0) (.int .i64 0))
    have KD := hik (chg4_set (Chg.refl (fun b => b = w.heap.size + 1 + 1 + 1) ((W3.setCell ⟨w.heap.size + 1 + 1, 0, none⟩ (.int .i64 0)).setCell ⟨w.heap.size + 1 + 1, 1, none⟩ (.int .i64 0))) (w.heap.size + 1 + 1 + 1) (fun _ => rfl) (.slice none 0 0) (.int .i64 0) (.string ⟨#[]⟩) (.int .i64 0))
    have CE := hik ((chg4_set (chg2_at G3.out (w.heap.size + 1 + 1) (fun l => absurd l (by omega)) 0 1 (.int .i64 0) (.int .i64 0)) (w.heap.size + 1 + 1 + 1) (fun l => absurd l (by omega)) (.slice none 0 0) (.int .i64 0) (.string ⟨#[]⟩) (.int .i64 0)).alloc (.cells #[] 31))
    have ZE := hik (World.rowIs.alloc (row4_set (rowIs_chg Z3.out KB.out (by omega)) (.slice none 0 0) (.int .i64 0) (.string ⟨#[]⟩) (.int .i64 0)) (.cells #[] 31))
    have FE := hik (((F3.out.set El.zr).chg KD.out (by omega)).keep ((Chg.refl nob _).alloc (.cells #[] 31)))
    clear y0 y1 y2 y3 v0 v1 v2 v3 g0 g1 f0 f1 KB KD
    generalize hE : (((((((W3.setCell ⟨w.heap.size + 1 + 1, 0, none⟩ (.int .i64 0)).setCell ⟨w.heap.size + 1 + 1, 1, none⟩ (.int .i64 0)).setCell ⟨w.heap.size + 1 + 1 + 1, 0, none⟩ (.slice none 0 0)).setCell ⟨w.heap.size + 1 + 1 + 1, 1, none⟩ (.int .i64 0)).setCell ⟨w.heap.size + 1 + 1 + 1, 2, none⟩ (.string ⟨#[]⟩)).setCell ⟨w.heap.size + 1 + 1 + 1, 3, none⟩ (.int .i64 0)).alloc (.cells #[] 31)) = W9 at CE ZE FE ⊢
    clear hE
    have u0 : (W9).cell? ⟨w.heap.size + 1 + 1 + 1, 0, none⟩ = some (.slice none 0 0) := ZE.out.cell (by omega)
    have u1 : (W9).cell? ⟨w.heap.size + 1 + 1 + 1, 1, none⟩ = some (.int .i64 0) := ZE.out.cell (by omega)
    have u2 : (W9).cell? ⟨w.heap.size + 1 + 1 + 1, 2, none⟩ = some (.string ⟨#[]⟩) := ZE.out.cell (by omega)
    have u3 : (W9).cell? ⟨w.heap.size + 1 + 1 + 1, 3, none⟩ = some (.int .i64 0) := ZE.out.cell (by omega)
    have r0 : W9.cell? ⟨w.heap.size + 1 + 1, 0, none⟩ = some (.int .i64 0) := FE.out.c0
    have r1 : W9.cell? ⟨w.heap.size + 1 + 1, 1, none⟩ = some (.int .i64 0) := FE.out.c1
    exact bodyPost_ret (v := .tuple #[.slice (some ⟨W3.heap.size, 0, none⟩) 0 0, .agg #[.int .i64 0, .int .i64 0], .agg #[.slice none 0 0, .int .i64 0, .string ⟨#[]⟩, .int .i64 0], .int .i64 1]) (by simp [results, Tryz.results6, go_sem, u0, u1, u2, u3, r0, r1]) rfl (VxAns.zero HC.out (by decide) rfl CE.out)
  rw [hb] at he
  subst he
  have HQ2 := hik (show q = if kdb K = true ∧ inW vars 0 6 = true then (if spb at' ct 6 = true then 6 else (if (m : Int) = vars then vcd fs gs len (K.toNat + 2) L (fun i => elF (f i) (g i)) ⟨elP x1 x2, at', st, ct⟩ 0 m else 18)) else 4 by rw [HQ.out]; unfold svc8; rw [if_pos ha, if_pos ⟨hx, hb⟩])
  clear HQ
  go_wp2_with fail
  refine (sKind_any K _).mono ?_
  rintro e W4 ⟨he, hw⟩
  have hw' := hw.symm
  clear hw
  subst hw'
  cases hk : kdb K
  · have HC := hik (show q = 4 by rw [HQ2.out, if_neg (by rw [hk]; simp)])
    rw [hk] at he
    subst he
    clear HQ2
    have y0 : (W3).cell? ⟨w.heap.size + 1 + 1 + 1, 0, none⟩ = some (.slice none 0 0) := Z3.out.cell (by omega)
    have y1 : (W3).cell? ⟨w.heap.size + 1 + 1 + 1, 1, none⟩ = some (.int .i64 0) := Z3.out.cell (by omega)
    have y2 : (W3).cell? ⟨w.heap.size + 1 + 1 + 1, 2, none⟩ = some (.string ⟨#[]⟩) := Z3.out.cell (by omega)
    have y3 : (W3).cell? ⟨w.heap.size + 1 + 1 + 1, 3, none⟩ = some (.int .i64 0) := Z3.out.cell (by omega)
    have v0 := Z3.out.frozen 0
    have v1 := Z3.out.frozen 1
    have v2 := Z3.out.frozen 2
    have v3 := Z3.out.frozen 3
    have g0 : W3.cell? ⟨w.heap.size + 1 + 1, 0, none⟩ = some (.int .i64 0) := F3.out.c0
    have g1 : W3.cell? ⟨w.heap.size + 1 + 1, 1, none⟩ = some (.int .i64 0) := F3.out.c1
    have f0 := F3.out.fz 0
    have f1 := F3.out.fz 1
    have zz : w.heap.size + 1 + 1 + 1 < W3.heap.size := Z3.out.lt
    have zz2 : w.heap.size + 1 + 1 < W3.heap.size := by omega
    have zz3 : w.heap.size + 1 < W3.heap.size := by omega
    have zz4 : w.heap.size < W3.heap.size := by omega
    go_wp2
    have KB := hik (chg2_at (Chg.refl (fun b => b = w.heap.size + 1 + 1) W3) (w.heap.size + 1 + 1) (fun _ => rfl) 0 1 (.int .i64 0) (.int .i64 0))
    have KD := hik (chg4_set (Chg.refl (fun b => b = w.heap.size + 1 + 1 + 1) ((W3.setCell ⟨w.heap.size + 1 + 1, 0, none⟩ (.int .i64 0)).setCell ⟨w.heap.size + 1 + 1, 1, none⟩ (.int .i64 0))) (w.heap.size + 1 + 1 + 1) (fun _ => rfl) (.slice none 0 0) (.int .i64 0) (.string ⟨#[]⟩) (.int .i64 0))
    have CE := hik ((chg4_set (chg2_at G3.out (w.heap.size + 1 + 1) (fun l => absurd l (by omega)) 0 1 (.int .i64 0) (.int .i64 0)) (w.heap.size + 1 + 1 + 1) (fun l => absurd l (by omega)) (.slice none 0 0) (.int .i64 0) (.string ⟨#[]⟩) (.int .i64 0)).alloc (.cells #[] 31))
    have ZE := hik (World.rowIs.alloc (row4_set (rowIs_chg Z3.out KB.out (by omega)) (.slice none 0 0) (.int .i64 0) (.string ⟨#[]⟩) (.int .i64 0)) (.cells #[] 31))
    have FE := hik (((F3.out.set El.zr).chg KD.out (by omega)).keep ((Chg.refl nob _).alloc (.cells #[] 31)))
    clear y0 y1 y2 y3 v0 v1 v2 v3 g0 g1 f0 f1 KB KD
    generalize hE : (((((((W3.setCell ⟨w.heap.size + 1 + 1, 0, none⟩ (.int .i64 0)).setCell ⟨w.heap.size + 1 + 1, 1, none⟩ (.int .i64 0)).setCell ⟨w.heap.size + 1 + 1 + 1, 0, none⟩ (.slice none 0 0)).setCell ⟨w.heap.size + 1 + 1 + 1, 1, none⟩ (.int .i64 0)).setCell ⟨w.heap.size + 1 + 1 + 1, 2, none⟩ (.string ⟨#[]⟩)).setCell ⟨w.heap.size + 1 + 1 + 1, 3, none⟩ (.int .i64 0)).alloc (.cells #[] 31)) = W9 at CE ZE FE ⊢
    clear hE
    have u0 : (W9).cell? ⟨w.heap.size + 1 + 1 + 1, 0, none⟩ = some (.slice none 0 0) := ZE.out.cell (by omega)
    have u1 : (W9).cell? ⟨w.heap.size + 1 + 1 + 1, 1, none⟩ = some (.int .i64 0) := ZE.out.cell (by omega)
    have u2 : (W9).cell? ⟨w.heap.size + 1 + 1 + 1, 2, none⟩ = some (.string ⟨#[]⟩) := ZE.out.cell (by omega)
    have u3 : (W9).cell? ⟨w.heap.size + 1 + 1 + 1, 3, none⟩ = some (.int .i64 0) := ZE.out.cell (by omega)
    have r0 : W9.cell? ⟨w.heap.size + 1 + 1, 0, none⟩ = some (.int .i64 0) := FE.out.c0
    have r1 : W9.cell? ⟨w.heap.size + 1 + 1, 1, none⟩ = some (.int .i64 0) := FE.out.c1
    exact bodyPost_ret (v := .tuple #[.slice (some ⟨W3.heap.size, 0, none⟩) 0 0, .agg #[.int .i64 0, .int .i64 0], .agg #[.slice none 0 0, .int .i64 0, .string ⟨#[]⟩, .int .i64 0], .int .i64 4]) (by simp [results, Tryz.results6, go_sem, u0, u1, u2, u3, r0, r1]) rfl (VxAns.zero HC.out (by decide) rfl CE.out)
  rw [hk] at he
  subst he
  go_wp2_with fail
  refine (l01In_any vars 0 6 _).mono ?_
  rintro e W4 ⟨he, hw⟩
  have hw' := hw.symm
  clear hw
  subst hw'
  cases hv : inW vars 0 6
  · have HC := hik (show q = 4 by rw [HQ2.out, if_neg (by rw [hv]; simp)])
    rw [hv] at he
    subst he
    clear HQ2
    have y0 : (W3).cell? ⟨w.heap.size + 1 + 1 + 1, 0, none⟩ = some (.slice none 0 0) := Z3.out.cell (by omega)
    have y1 : (W3).cell? ⟨w.heap.size + 1 + 1 + 1, 1, none⟩ = some (.int .i64 0) := Z3.out.cell (by omega)
    have y2 : (W3).cell? ⟨w.heap.size + 1 + 1 + 1, 2, none⟩ = some (.string ⟨#[]⟩) := Z3.out.cell (by omega)
    have y3 : (W3).cell? ⟨w.heap.size + 1 + 1 + 1, 3, none⟩ = some (.int .i64 0) := Z3.out.cell (by omega)
    have v0 := Z3.out.frozen 0
    have v1 := Z3.out.frozen 1
    have v2 := Z3.out.frozen 2
    have v3 := Z3.out.frozen 3
    have g0 : W3.cell? ⟨w.heap.size + 1 + 1, 0, none⟩ = some (.int .i64 0) := F3.out.c0
    have g1 : W3.cell? ⟨w.heap.size + 1 + 1, 1, none⟩ = some (.int .i64 0) := F3.out.c1
    have f0 := F3.out.fz 0
    have f1 := F3.out.fz 1
    have zz : w.heap.size + 1 + 1 + 1 < W3.heap.size := Z3.out.lt
    have zz2 : w.heap.size + 1 + 1 < W3.heap.size := by omega
    have zz3 : w.heap.size + 1 < W3.heap.size := by omega
    have zz4 : w.heap.size < W3.heap.size := by omega
    go_wp2
    have KB := hik (chg2_at (Chg.refl (fun b => b = w.heap.size + 1 + 1) W3) (w.heap.size + 1 + 1) (fun _ => rfl) 0 1 (.int .i64 0) (.int .i64 0))
    have KD := hik (chg4_set (Chg.refl (fun b => b = w.heap.size + 1 + 1 + 1) ((W3.setCell ⟨w.heap.size + 1 + 1, 0, none⟩ (.int .i64 0)).setCell ⟨w.heap.size + 1 + 1, 1, none⟩ (.int .i64 0))) (w.heap.size + 1 + 1 + 1) (fun _ => rfl) (.slice none 0 0) (.int .i64 0) (.string ⟨#[]⟩) (.int .i64 0))
    have CE := hik ((chg4_set (chg2_at G3.out (w.heap.size + 1 + 1) (fun l => absurd l (by omega)) 0 1 (.int .i64 0) (.int .i64 0)) (w.heap.size + 1 + 1 + 1) (fun l => absurd l (by omega)) (.slice none 0 0) (.int .i64 0) (.string ⟨#[]⟩) (.int .i64 0)).alloc (.cells #[] 31))
    have ZE := hik (World.rowIs.alloc (row4_set (rowIs_chg Z3.out KB.out (by omega)) (.slice none 0 0) (.int .i64 0) (.string ⟨#[]⟩) (.int .i64 0)) (.cells #[] 31))
    have FE := hik (((F3.out.set El.zr).chg KD.out (by omega)).keep ((Chg.refl nob _).alloc (.cells #[] 31)))
    clear y0 y1 y2 y3 v0 v1 v2 v3 g0 g1 f0 f1 KB KD
    generalize hE : (((((((W3.setCell ⟨w.heap.size + 1 + 1, 0, none⟩ (.int .i64 0)).setCell ⟨w.heap.size + 1 + 1, 1, none⟩ (.int .i64 0)).setCell ⟨w.heap.size + 1 + 1 + 1, 0, none⟩ (.slice none 0 0)).setCell ⟨w.heap.size + 1 + 1 + 1, 1, none⟩ (.int .i64 0)).setCell ⟨w.heap.size + 1 + 1 + 1, 2, none⟩ (.string ⟨#[]⟩)).setCell ⟨w.heap.size + 1 + 1 + 1, 3, none⟩ (.int .i64 0)).alloc (.cells #[] 31)) = W9 at CE ZE FE ⊢
    clear hE
    have u0 : (W9).cell? ⟨w.heap.size + 1 + 1 + 1, 0, none⟩ = some (.slice none 0 0) := ZE.out.cell (by omega)
    have u1 : (W9).cell? ⟨w.heap.size + 1 + 1 + 1, 1, none⟩ = some (.int .i64 0) := ZE.out.cell (by omega)
    have u2 : (W9).cell? ⟨w.heap.size + 1 + 1 + 1, 2, none⟩ = some (.string ⟨#[]⟩) := ZE.out.cell (by omega)
    have u3 : (W9).cell? ⟨w.heap.size + 1 + 1 + 1, 3, none⟩ = some (.int .i64 0) := ZE.out.cell (by omega)
    have r0 : W9.cell? ⟨w.heap.size + 1 + 1, 0, none⟩ = some (.int .i64 0) := FE.out.c0
    have r1 : W9.cell? ⟨w.heap.size + 1 + 1, 1, none⟩ = some (.int .i64 0) := FE.out.c1
    exact bodyPost_ret (v := .tuple #[.slice (some ⟨W3.heap.size, 0, none⟩) 0 0, .agg #[.int .i64 0, .int .i64 0], .agg #[.slice none 0 0, .int .i64 0, .string ⟨#[]⟩, .int .i64 0], .int .i64 4]) (by simp [results, Tryz.results6, go_sem, u0, u1, u2, u3, r0, r1]) rfl (VxAns.zero HC.out (by decide) rfl CE.out)
  rw [hv] at he
  subst he
  have e0 : W3.cell? ⟨w.heap.size, 0, none⟩ = some (.int .i64 x1) := E3.out.cell (by omega)
  have e1 : W3.cell? ⟨w.heap.size, 1, none⟩ = some (.int .i64 x2) := E3.out.cell (by omega)
  have x0 : W3.cell? ⟨w.heap.size + 1, 0, none⟩ = some (.slice cs len caps) := S3.out.cell (by omega)
  have x1' : W3.cell? ⟨w.heap.size + 1, 1, none⟩ = some (.int .i64 at') := S3.out.cell (by omega)
  have x2' : W3.cell? ⟨w.heap.size + 1, 2, none⟩ = some (.string st) := S3.out.cell (by omega)
  have x3 : W3.cell? ⟨w.heap.size + 1, 3, none⟩ = some (.int .i64 ct) := S3.out.cell (by omega)
  have zS : w.heap.size + 1 < W3.heap.size := S3.out.lt
  have zE : w.heap.size < W3.heap.size := by omega
  go_wp2_with fail
  refine (sSpent_any cs len caps at' st ct 6 _ (by omega)).mono ?_
  rintro e W4 ⟨he, k1⟩
  have E4 := hik (rowIs_keep E3.out k1)
  have S4 := hik (rowIs_keep S3.out k1)
  have F4 := hik (F3.out.keep k1)
  have Z4 := hik (rowIs_keep Z3.out k1)
  have G4 := hik (G3.out.trans k1)
  clear k1 E3 S3 F3 Z3 G3
  clear x0 x1' x2' x3 e0 e1 zS zE
  by_cases hd : spb at' ct 6 = true
  · have HC := hik (show q = 6 by rw [HQ2.out, if_pos ⟨hk, hv⟩, if_pos hd])
    rw [hd] at he
    subst he
    clear HQ2
    have y0 : (W4).cell? ⟨w.heap.size + 1 + 1 + 1, 0, none⟩ = some (.slice none 0 0) := Z4.out.cell (by omega)
    have y1 : (W4).cell? ⟨w.heap.size + 1 + 1 + 1, 1, none⟩ = some (.int .i64 0) := Z4.out.cell (by omega)
    have y2 : (W4).cell? ⟨w.heap.size + 1 + 1 + 1, 2, none⟩ = some (.string ⟨#[]⟩) := Z4.out.cell (by omega)
    have y3 : (W4).cell? ⟨w.heap.size + 1 + 1 + 1, 3, none⟩ = some (.int .i64 0) := Z4.out.cell (by omega)
    have v0 := Z4.out.frozen 0
    have v1 := Z4.out.frozen 1
    have v2 := Z4.out.frozen 2
    have v3 := Z4.out.frozen 3
    have g0 : W4.cell? ⟨w.heap.size + 1 + 1, 0, none⟩ = some (.int .i64 0) := F4.out.c0
    have g1 : W4.cell? ⟨w.heap.size + 1 + 1, 1, none⟩ = some (.int .i64 0) := F4.out.c1
    have f0 := F4.out.fz 0
    have f1 := F4.out.fz 1
    have zz : w.heap.size + 1 + 1 + 1 < W4.heap.size := Z4.out.lt
    have zz2 : w.heap.size + 1 + 1 < W4.heap.size := by omega
    have zz3 : w.heap.size + 1 < W4.heap.size := by omega
    have zz4 : w.heap.size < W4.heap.size := by omega
    go_wp2
    have KB := hik (chg2_at (Chg.refl (fun b => b = w.heap.size + 1 + 1) W4) (w.heap.size + 1 + 1) (fun _ => rfl) 0 1 (.int .i64 0) (.int .i64 0))
    have KD := hik (chg4_set (Chg.refl (fun b => b = w.heap.size + 1 + 1 + 1) ((W4.setCell ⟨w.heap.size + 1 + 1, 0, none⟩ (.int .i64 0)).setCell ⟨w.heap.size + 1 + 1, 1, none⟩ (.int .i64 0))) (w.heap.size + 1 + 1 + 1) (fun _ => rfl) (.slice none 0 0) (.int .i64 0) (.string ⟨#[]⟩) (.int .i64 0))
    have CE := hik ((chg4_set (chg2_at G4.out (w.heap.size + 1 + 1) (fun l => absurd l (by omega)) 0 1 (.int .i64 0) (.int .i64 0)) (w.heap.size + 1 + 1 + 1) (fun l => absurd l (by omega)) (.slice none 0 0) (.int .i64 0) (.string ⟨#[]⟩) (.int .i64 0)).alloc (.cells #[] 31))
    have ZE := hik (World.rowIs.alloc (row4_set (rowIs_chg Z4.out KB.out (by omega)) (.slice none 0 0) (.int .i64 0) (.string ⟨#[]⟩) (.int .i64 0)) (.cells #[] 31))
    have FE := hik (((F4.out.set El.zr).chg KD.out (by omega)).keep ((Chg.refl nob _).alloc (.cells #[] 31)))
    clear y0 y1 y2 y3 v0 v1 v2 v3 g0 g1 f0 f1 KB KD
    generalize hE : (((((((W4.setCell ⟨w.heap.size + 1 + 1, 0, none⟩ (.int .i64 0)).setCell ⟨w.heap.size + 1 + 1, 1, none⟩ (.int .i64 0)).setCell ⟨w.heap.size + 1 + 1 + 1, 0, none⟩ (.slice none 0 0)).setCell ⟨w.heap.size + 1 + 1 + 1, 1, none⟩ (.int .i64 0)).setCell ⟨w.heap.size + 1 + 1 + 1, 2, none⟩ (.string ⟨#[]⟩)).setCell ⟨w.heap.size + 1 + 1 + 1, 3, none⟩ (.int .i64 0)).alloc (.cells #[] 31)) = W9 at CE ZE FE ⊢
    clear hE
    have u0 : (W9).cell? ⟨w.heap.size + 1 + 1 + 1, 0, none⟩ = some (.slice none 0 0) := ZE.out.cell (by omega)
    have u1 : (W9).cell? ⟨w.heap.size + 1 + 1 + 1, 1, none⟩ = some (.int .i64 0) := ZE.out.cell (by omega)
    have u2 : (W9).cell? ⟨w.heap.size + 1 + 1 + 1, 2, none⟩ = some (.string ⟨#[]⟩) := ZE.out.cell (by omega)
    have u3 : (W9).cell? ⟨w.heap.size + 1 + 1 + 1, 3, none⟩ = some (.int .i64 0) := ZE.out.cell (by omega)
    have r0 : W9.cell? ⟨w.heap.size + 1 + 1, 0, none⟩ = some (.int .i64 0) := FE.out.c0
    have r1 : W9.cell? ⟨w.heap.size + 1 + 1, 1, none⟩ = some (.int .i64 0) := FE.out.c1
    exact bodyPost_ret (v := .tuple #[.slice (some ⟨W4.heap.size, 0, none⟩) 0 0, .agg #[.int .i64 0, .int .i64 0], .agg #[.slice none 0 0, .int .i64 0, .string ⟨#[]⟩, .int .i64 0], .int .i64 6]) (by simp [results, Tryz.results6, go_sem, u0, u1, u2, u3, r0, r1]) rfl (VxAns.zero HC.out (by decide) rfl CE.out)
  have HQ3 := hik (show q = if (m : Int) = vars then vcd fs gs len (K.toNat + 2) L (fun i => elF (f i) (g i)) ⟨elP x1 x2, at', st, ct⟩ 0 m else 18 by rw [HQ2.out, if_pos ⟨hk, hv⟩, if_neg hd])
  clear HQ2
  replace hd : spb at' ct 6 = false := by simpa using hd
  rw [hd] at he
  subst he
  obtain ⟨k, hKk, hk12⟩ := kdb_nat hk
  subst hKk
  obtain ⟨x, ex1, ex2, exe⟩ : ∃ x : El, x1 = x.v.1 ∧ x2 = x.v.2 ∧ elP x1 x2 = x := ⟨elP x1 x2, by rw [elP_v hx], by rw [elP_v hx], rfl⟩
  obtain ⟨b1, b2, ⟨b3, b4⟩, b5, b6, b7⟩ := sokb_parts hb
  have b8 := (spb_no hd).1
  have b9 : vars ≤ 6 := by unfold inW at hv; have := of_decide_eq_true hv; omega
  obtain ⟨_, hrk⟩ := rkc_ok ha
  have HR := hik (RowsL.of h.out (fun i hi => (hrk i hi).2))
  have HL8 := hik (fun i hi => (hrk i hi).1)
  have QV := hik (fun (w : World) (h : Hid (RowsL w c m L (fun i => elF (f i) (g i)))) (hs : Hid (PairV w cs len fs gs)) => sVer_any hk12 c m cap vars b9 L (fun i => elF (f i) (g i)) x cs len caps fs gs at' st ct w h HL8 hs b1 b2 b5 b3 b8)
  rw [exe, Int.toNat_natCast] at HQ3
  rw [← HQ3.out] at QV
  obtain ⟨Rr, hRr⟩ : ∃ y, y = vpt fs gs len (k + 2) (fun i => elF (f i) (g i)) ⟨x, at', st, ct⟩ := ⟨_, rfl⟩
  obtain ⟨Vs, hVs⟩ : ∃ y, y = vst fs gs len (k + 2) (fun i => elF (f i) (g i)) ⟨x, at', st, ct⟩ m := ⟨_, rfl⟩
  have EQ := hik (show Rr = vpt fs gs len (k + 2) (fun i => elF (f i) (g i)) ⟨x, at', st, ct⟩ ∧ Vs = vst fs gs len (k + 2) (fun i => elF (f i) (g i)) ⟨x, at', st, ct⟩ m ∧ elP x1 x2 = x from ⟨hRr, hVs, exe⟩)
  rw [← hRr, ← hVs] at QV
  have HLEN := hik b1
  clear HQ3 hRr hVs exe hk12 hrk b1 b2 b3 b4 b5 b6 b7 b8 b9 ha hb hx hk hv hd
  subst ex1 ex2
  have e0 : W4.cell? ⟨w.heap.size, 0, none⟩ = some (.int .i64 x.v.1) := E4.out.cell (by omega)
  have e1 : W4.cell? ⟨w.heap.size, 1, none⟩ = some (.int .i64 x.v.2) := E4.out.cell (by omega)
  have x0 : W4.cell? ⟨w.heap.size + 1, 0, none⟩ = some (.slice cs len caps) := S4.out.cell (by omega)
  have x1' : W4.cell? ⟨w.heap.size + 1, 1, none⟩ = some (.int .i64 at') := S4.out.cell (by omega)
  have x2' : W4.cell? ⟨w.heap.size + 1, 2, none⟩ = some (.string st) := S4.out.cell (by omega)
  have x3 : W4.cell? ⟨w.heap.size + 1, 3, none⟩ = some (.int .i64 ct) := S4.out.cell (by omega)
  have zS : w.heap.size + 1 < W4.heap.size := S4.out.lt
  have zE : w.heap.size < W4.heap.size := by omega
  go_wp2_with fail
  refine (QV.out _ (hik (RowsL.keep HR.out G4.out)) (hik (hs.out.keep G4.out))).mono ?_
  rintro e W5 ⟨cP, n', capP, x', a', s', c', rfl, hz, k5⟩
  have HZ := hik hz
  have hz4 := hik (show w.heap.size + 1 + 1 + 1 < W4.heap.size ∧ W4.heap.size ≤ W5.heap.size from ⟨Z4.out.lt, k5.size⟩)
  have KA := hik (((Chg.refl nob W5).alloc (.cells #[.int .i64 x'.v.1, .int .i64 x'.v.2] 31)).alloc (.cells #[.slice cs len caps, .int .i64 a', .string s', .int .i64 c'] 33))
  have F6 := hik ((F4.out.keep k5).keep KA.out)
  have Z6 := hik (rowIs_keep (rowIs_keep Z4.out k5) KA.out)
  have G6 := hik ((G4.out.trans k5).trans KA.out)
  have X6 := hik ((ElB.new W5 x').keep ((Chg.refl nob _).alloc (.cells #[.slice cs len caps, .int .i64 a', .string s', .int .i64 c'] 33)))
  have T6 : Hid (((W5.alloc (.cells #[.int .i64 x'.v.1, .int .i64 x'.v.2] 31)).alloc (.cells #[.slice cs len caps, .int .i64 a', .string s', .int .i64 c'] 33)).rowIs (W5.heap.size + 1) 33 4 (pv4 (.slice cs len caps) (.int .i64 a') (.string s') (.int .i64 c'))) := hik (by simpa using row4_new (W5.alloc (.cells #[.int .i64 x'.v.1, .int .i64 x'.v.2] 31)) (.slice cs len caps) (.int .i64 a') (.string s') (.int .i64 c') 33)
  have P6 := hik (show q = 0 → OwnE ((W5.alloc (.cells #[.int .i64 x'.v.1, .int .i64 x'.v.2] 31)).alloc (.cells #[.slice cs len caps, .int .i64 a', .string s', .int .i64 c'] 33)) W4.heap.size cP m (cA Rr) (cB Rr) from fun h0 => (hz h0).2.1.keep KA.out)
  clear hz k5 KA E4 S4 F4 Z4 G4 x0 x1' x2' x3 e0 e1 zS zE
  go_upto_region 13 with fail
  generalize hE : (W5.alloc (.cells #[.int .i64 x'.v.1, .int .i64 x'.v.2] 31)).alloc (.cells #[.slice cs len caps, .int .i64 a', .string s', .int .i64 c'] 33) = W6 at F6 Z6 G6 X6 T6 P6 ⊢
  clear hE
  by_cases ha : ¬ q = 0
  · have HC := hik (show q = q from rfl)
    have hqb : (q == 0) = false := by simpa using ha
    have y0 : (W6).cell? ⟨w.heap.size + 1 + 1 + 1, 0, none⟩ = some (.slice none 0 0) := Z6.out.cell (by omega)
    have y1 : (W6).cell? ⟨w.heap.size + 1 + 1 + 1, 1, none⟩ = some (.int .i64 0) := Z6.out.cell (by omega)
    have y2 : (W6).cell? ⟨w.heap.size + 1 + 1 + 1, 2, none⟩ = some (.string ⟨#[]⟩) := Z6.out.cell (by omega)
    have y3 : (W6).cell? ⟨w.heap.size + 1 + 1 + 1, 3, none⟩ = some (.int .i64 0) := Z6.out.cell (by omega)
    have v0 := Z6.out.frozen 0
    have v1 := Z6.out.frozen 1
    have v2 := Z6.out.frozen 2
    have v3 := Z6.out.frozen 3
    have g0 : W6.cell? ⟨w.heap.size + 1 + 1, 0, none⟩ = some (.int .i64 0) := F6.out.c0
    have g1 : W6.cell? ⟨w.heap.size + 1 + 1, 1, none⟩ = some (.int .i64 0) := F6.out.c1
    have f0 := F6.out.fz 0
    have f1 := F6.out.fz 1
    have zz : w.heap.size + 1 + 1 + 1 < W6.heap.size := Z6.out.lt
    have zz2 : w.heap.size + 1 + 1 < W6.heap.size := by omega
    have zz3 : w.heap.size + 1 < W6.heap.size := by omega
    have zz4 : w.heap.size < W6.heap.size := by omega
    go_wp2
    have KB := hik (chg2_at (Chg.refl (fun b => b = w.heap.size + 1 + 1) W6) (w.heap.size + 1 + 1) (fun _ => rfl) 0 1 (.int .i64 0) (.int .i64 0))
    have KD := hik (chg4_set (Chg.refl (fun b => b = w.heap.size + 1 + 1 + 1) ((W6.setCell ⟨w.heap.size + 1 + 1, 0, none⟩ (.int .i64 0)).setCell ⟨w.heap.size + 1 + 1, 1, none⟩ (.int .i64 0))) (w.heap.size + 1 + 1 + 1) (fun _ => rfl) (.slice none 0 0) (.int .i64 0) (.string ⟨#[]⟩) (.int .i64 0))
    have CE := hik ((chg4_set (chg2_at G6.out (w.heap.size + 1 + 1) (fun l => absurd l (by omega)) 0 1 (.int .i64 0) (.int .i64 0)) (w.heap.size + 1 + 1 + 1) (fun l => absurd l (by omega)) (.slice none 0 0) (.int .i64 0) (.string ⟨#[]⟩) (.int .i64 0)).alloc (.cells #[] 31))
    have ZE := hik (World.rowIs.alloc (row4_set (rowIs_chg Z6.out KB.out (by omega)) (.slice none 0 0) (.int .i64 0) (.string ⟨#[]⟩) (.int .i64 0)) (.cells #[] 31))
    have FE := hik (((F6.out.set El.zr).chg KD.out (by omega)).keep ((Chg.refl nob _).alloc (.cells #[] 31)))
    clear y0 y1 y2 y3 v0 v1 v2 v3 g0 g1 f0 f1 KB KD
    generalize hE : (((((((W6.setCell ⟨w.heap.size + 1 + 1, 0, none⟩ (.int .i64 0)).setCell ⟨w.heap.size + 1 + 1, 1, none⟩ (.int .i64 0)).setCell ⟨w.heap.size + 1 + 1 + 1, 0, none⟩ (.slice none 0 0)).setCell ⟨w.heap.size + 1 + 1 + 1, 1, none⟩ (.int .i64 0)).setCell ⟨w.heap.size + 1 + 1 + 1, 2, none⟩ (.string ⟨#[]⟩)).setCell ⟨w.heap.size + 1 + 1 + 1, 3, none⟩ (.int .i64 0)).alloc (.cells #[] 31)) = W9 at CE ZE FE ⊢
    clear hE
    have u0 : (W9).cell? ⟨w.heap.size + 1 + 1 + 1, 0, none⟩ = some (.slice none 0 0) := ZE.out.cell (by omega)
    have u1 : (W9).cell? ⟨w.heap.size + 1 + 1 + 1, 1, none⟩ = some (.int .i64 0) := ZE.out.cell (by omega)
    have u2 : (W9).cell? ⟨w.heap.size + 1 + 1 + 1, 2, none⟩ = some (.string ⟨#[]⟩) := ZE.out.cell (by omega)
    have u3 : (W9).cell? ⟨w.heap.size + 1 + 1 + 1, 3, none⟩ = some (.int .i64 0) := ZE.out.cell (by omega)
    have r0 : W9.cell? ⟨w.heap.size + 1 + 1, 0, none⟩ = some (.int .i64 0) := FE.out.c0
    have r1 : W9.cell? ⟨w.heap.size + 1 + 1, 1, none⟩ = some (.int .i64 0) := FE.out.c1
    exact bodyPost_ret (v := .tuple #[.slice (some ⟨W6.heap.size, 0, none⟩) 0 0, .agg #[.int .i64 0, .int .i64 0], .agg #[.slice none 0 0, .int .i64 0, .string ⟨#[]⟩, .int .i64 0], .int .i64 q]) (by simp [results, Tryz.results6, go_sem, u0, u1, u2, u3, r0, r1]) rfl (VxAns.zero rfl (ha) rfl CE.out)
  replace ha : q = 0 := Classical.byContradiction ha
  have HC := hik ha
  have P7 := hik (P6.out ha)
  obtain ⟨rfl, _, rfl, rfl, rfl, rfl⟩ := HZ.out ha
  clear P6 HZ QV
  subst ha
  go_upto_region 15 with fail
  generalize hEx : W5.heap.size = xb at X6 T6 hz4 ⊢
  clear hEx
  have x0 := X6.out.c0
  have x1 := X6.out.c1
  have t0 : W6.cell? ⟨xb + 1, 0, none⟩ = some (.slice cs len caps) := T6.out.cell (by omega)
  have t1 : W6.cell? ⟨xb + 1, 1, none⟩ = some (.int .i64 Vs.a) := T6.out.cell (by omega)
  have t2 : W6.cell? ⟨xb + 1, 2, none⟩ = some (.string Vs.s) := T6.out.cell (by omega)
  have t3 : W6.cell? ⟨xb + 1, 3, none⟩ = some (.int .i64 Vs.c) := T6.out.cell (by omega)
  have hz5 := hik (show w.heap.size + 1 + 1 + 1 < xb by have := hz4.out; omega)
  have hz6 : w.heap.size + 1 + 1 + 1 < xb := hz5.out
  have KN := hik ((Chg.refl nob W6).drew1)
  have KW := hik ((Chg.refl (fun b => b = w.heap.size + 1 + 1) W6).drew1)
  have SA := hik (fun (WW : World) (kW : Chg (fun b => b = w.heap.size + 1 + 1) W6 WW) => (show (WW.cell? ⟨xb, 0, none⟩ = some (.int .i64 Vs.x.v.1) ∧ WW.cell? ⟨xb, 1, none⟩ = some (.int .i64 Vs.x.v.2) ∧ WW.cell? ⟨xb + 1, 0, none⟩ = some (.slice cs len caps) ∧ WW.cell? ⟨xb + 1, 1, none⟩ = some (.int .i64 Vs.a) ∧ WW.cell? ⟨xb + 1, 2, none⟩ = some (.string Vs.s) ∧ WW.cell? ⟨xb + 1, 3, none⟩ = some (.int .i64 Vs.c)) from ⟨kW.seeP x0 (by omega), kW.seeP x1 (by omega), kW.seeP t0 (by omega), kW.seeP t1 (by omega), kW.seeP t2 (by omega), kW.seeP t3 (by omega)⟩))
  refine wp_regionL (L := 6) (S := fun w' => w'.cell? ⟨xb, 0, none⟩ = some (.int .i64 Vs.x.v.1) ∧ w'.cell? ⟨xb, 1, none⟩ = some (.int .i64 Vs.x.v.2) ∧ w'.cell? ⟨xb + 1, 0, none⟩ = some (.slice cs len caps) ∧ w'.cell? ⟨xb + 1, 1, none⟩ = some (.int .i64 Vs.a) ∧ w'.cell? ⟨xb + 1, 2, none⟩ = some (.string Vs.s) ∧ w'.cell? ⟨xb + 1, 3, none⟩ = some (.int .i64 Vs.c)) (by kernel_rfl) (SA.out _ KW.out) (fun hHeld => ?_)
  refine wpAnyL_take (i := 0) (v := ?_) rfl (by kernel_rfl) (by kernel_rfl) (by kernel_rfl) (fun _ _ _ h => h) (by rfl) (by kernel_rfl) (by kernel_rfl) (Or.inl ⟨by rfl, ?_⟩) (by assumption) ?_
  rotate_left 1
  · (intro w' hSw; (try dsimp only at hSw); go_simp; try with_reducible rfl)
  try simp only [Act.put, List.setIfInBounds_toArray, List.set_cons_zero, List.set_cons_succ, List.getElem_toArray, List.getElem_cons_zero, List.getElem_cons_succ]
  refine wpAnyL_take (i := 1) (v := ?_) rfl (by kernel_rfl) (by kernel_rfl) (by kernel_rfl) (fun _ _ _ h => h) (by rfl) (by kernel_rfl) (by kernel_rfl) (Or.inl ⟨by rfl, ?_⟩) (by assumption) ?_
  rotate_left 1
  · (intro w' hSw; (try dsimp only at hSw); go_simp; try with_reducible rfl)
  try simp only [Act.put, List.setIfInBounds_toArray, List.set_cons_zero, List.set_cons_succ, List.getElem_toArray, List.getElem_cons_zero, List.getElem_cons_succ]
  refine wpAnyL_take (i := 2) (v := ?_) rfl (by kernel_rfl) (by kernel_rfl) (by kernel_rfl) (fun _ _ _ h => h) (by rfl) (by kernel_rfl) (by kernel_rfl) (Or.inl ⟨by rfl, ?_⟩) (by assumption) ?_
  rotate_left 1
  · (intro w' hSw; (try dsimp only at hSw); go_simp; try with_reducible rfl)
  try simp only [Act.put, List.setIfInBounds_toArray, List.set_cons_zero, List.set_cons_succ, List.getElem_toArray, List.getElem_cons_zero, List.getElem_cons_succ]
  refine wpAnyL_ready (rs := [3]) (by kernel_rfl) (by simp) ?_
  refine AllReadyL.cons rfl (fun K hK => ?_) AllReadyL.nil
  refine stepL_callN 28 #[.tmp 81] #[33] (by rfl) (by rfl) #[.agg #[.slice cs len caps, .int .i64 Vs.a, .string Vs.s, .int .i64 Vs.c]] (by simp only [List.map_toArray, List.map_cons, List.map_nil] <;> rfl) (run_go Tryz.func28 (by kernel_rfl) (by kernel_rfl) _ _) (sOwn_any cs len caps fs gs Vs.a Vs.s Vs.c _ (hik (hs.out.keep (G6.out.trans KN.out))) (by have := HLEN.out; omega)) ?_
  rintro e U1 ⟨cS, capS, he, oS, kk⟩
  have OS := hik oS
  replace KN := hik (KN.out.trans kk)
  replace kk := kk.wide (P := (fun b => b = w.heap.size + 1 + 1))
  clear oS
  refine ⟨_, he, ?_⟩
  replace KW := hik (KW.out.trans kk)
  refine hK.out _ _ (SA.out _ KW.out) (fun hHeld => ?_)
  clear hK K
  try simp only [Act.put, List.setIfInBounds_toArray, List.set_cons_zero, List.set_cons_succ, List.getElem_toArray, List.getElem_cons_zero, List.getElem_cons_succ]
  clear he kk
  refine wpAnyL_take (i := 4) (v := ?_) rfl (by kernel_rfl) (by kernel_rfl) (by kernel_rfl) (fun _ _ _ h => h) (by rfl) (by kernel_rfl) (by kernel_rfl) (Or.inl ⟨by rfl, ?_⟩) (by assumption) ?_
  rotate_left 1
  · (intro w' hSw; (try dsimp only at hSw); go_simp; try with_reducible rfl)
  try simp only [Act.put, List.setIfInBounds_toArray, List.set_cons_zero, List.set_cons_succ, List.getElem_toArray, List.getElem_cons_zero, List.getElem_cons_succ]
  refine wpAnyL_ready (rs := [5]) (by kernel_rfl) (by simp) ?_
  refine AllReadyL.cons rfl (fun K hK => ?_) AllReadyL.nil
  have F7 := hik (F6.out.keep KN.out)
  have Z7 := hik (rowIs_keep Z6.out KN.out)
  have G7 := hik (G6.out.trans KN.out)
  have P8 := hik (P7.out.keep KN.out)
  have hz7 := hik (show w.heap.size + 1 + 1 + 1 < W6.heap.size ∧ W6.heap.size ≤ U1.heap.size from ⟨Z6.out.lt, KN.out.size⟩)
  have g0 : U1.cell? ⟨w.heap.size + 1 + 1, 0, none⟩ = some (.int .i64 0) := F7.out.c0
  have g1 : U1.cell? ⟨w.heap.size + 1 + 1, 1, none⟩ = some (.int .i64 0) := F7.out.c1
  have f0 := F7.out.fz 0
  have f1 := F7.out.fz 1
  have ln : w.heap.size + 1 + 1 < U1.heap.size := F7.out.lt
  simp only [List.getElem_toArray, List.getElem_cons_zero, List.getElem_cons_succ]
  go_simp
  replace KW := hik (chg2_at KW.out (w.heap.size + 1 + 1) (fun _ => rfl) 0 1 (.int .i64 Vs.x.v.1) (.int .i64 Vs.x.v.2))
  have C7 := hik (chg2_at (Chg.refl (fun b => b = w.heap.size + 1 + 1) U1) (w.heap.size + 1 + 1) (fun _ => rfl) 0 1 (.int .i64 Vs.x.v.1) (.int .i64 Vs.x.v.2))
  have F8 := hik (F7.out.set Vs.x)
  have Z8 := hik (rowIs_chg Z7.out C7.out (by omega))
  have O8 := hik (OS.out.chg C7.out (fun b hb _ e => by have := hz7.out; have hb' : W6.heap.size ≤ b := hb; omega))
  replace P8 := hik (P8.out.chg C7.out (fun b hb _ e => by have := hz4.out; omega))
  have G8 := hik (chg2_at G7.out (w.heap.size + 1 + 1) (fun l => absurd l (by omega)) 0 1 (.int .i64 Vs.x.v.1) (.int .i64 Vs.x.v.2))
  clear g0 g1 f0 f1 ln
  refine hK.out _ _ (SA.out _ KW.out) (fun hHeld => ?_)
  clear hK K
  try simp only [Act.put, List.setIfInBounds_toArray, List.set_cons_zero, List.set_cons_succ, List.getElem_toArray, List.getElem_cons_zero, List.getElem_cons_succ]
  clear hHeld F7 Z7 G7 C7 KN OS
  generalize hE : ((U1.setCell ⟨w.heap.size + 1 + 1, 0, none⟩ (.int .i64 Vs.x.v.1)).setCell ⟨w.heap.size + 1 + 1, 1, none⟩ (.int .i64 Vs.x.v.2)) = W7 at KW F8 Z8 G8 O8 P8 ⊢
  clear hE
  refine wpAnyL_ready (rs := [6]) (by kernel_rfl) (by simp) ?_
  refine AllReadyL.last rfl (by kernel_rfl) (fun K hK => ?_)
  have g0 : W7.cell? ⟨w.heap.size + 1 + 1 + 1, 0, none⟩ = some (.slice none 0 0) := Z8.out.cell (by omega)
  have f0 := Z8.out.frozen 0
  have g1 : W7.cell? ⟨w.heap.size + 1 + 1 + 1, 1, none⟩ = some (.int .i64 0) := Z8.out.cell (by omega)
  have f1 := Z8.out.frozen 1
  have g2 : W7.cell? ⟨w.heap.size + 1 + 1 + 1, 2, none⟩ = some (.string ⟨#[]⟩) := Z8.out.cell (by omega)
  have f2 := Z8.out.frozen 2
  have g3 : W7.cell? ⟨w.heap.size + 1 + 1 + 1, 3, none⟩ = some (.int .i64 0) := Z8.out.cell (by omega)
  have f3 := Z8.out.frozen 3
  have ln : w.heap.size + 1 + 1 + 1 < W7.heap.size := Z8.out.lt
  simp only [List.getElem_toArray, List.getElem_cons_zero, List.getElem_cons_succ]
  go_simp
  refine hK.out _ _ ?_
  clear hK K
  try simp only [Act.put, List.setIfInBounds_toArray, List.set_cons_zero, List.set_cons_succ, List.getElem_toArray, List.getElem_cons_zero, List.getElem_cons_succ]
  clear g0 g1 g2 g3 f0 f1 f2 f3 ln
  refine wpAnyL_take1 (i := 7) (v := ?_) rfl (by kernel_rfl) (by kernel_rfl) (by kernel_rfl) (fun _ _ _ h => h) (by rfl) (by rfl) (Or.inl ⟨by rfl, ?_⟩) ?_
  rotate_left 1
  · (intro w' hSw; (try dsimp only at hSw); go_simp; try with_reducible rfl)
  try simp only [Act.put, List.setIfInBounds_toArray, List.set_cons_zero, List.set_cons_succ, List.getElem_toArray, List.getElem_cons_zero, List.getElem_cons_succ]
  refine wpAnyL_done (by kernel_rfl) ?_ _
  have C9 := hik (chg4_set (Chg.refl (fun b => b = w.heap.size + 1 + 1 + 1) W7) (w.heap.size + 1 + 1 + 1) (fun _ => rfl) (.slice cS len capS) (.int .i64 Vs.a) (.string Vs.s) (.int .i64 Vs.c))
  have O9 := hik ((O8.out.chg C9.out (fun b hb _ e => by have := hz7.out; have hb' : W6.heap.size ≤ b := hb; omega)).low (B' := w.heap.size) (by show w.heap.size ≤ W6.heap.size; have := hz7.out; omega))
  have P9 := hik ((P8.out.chg C9.out (fun b hb _ e => by have := hz4.out; omega)).low (B' := w.heap.size) (by have := hz4.out; omega))
  have G9 := hik (chg4_set G8.out (w.heap.size + 1 + 1 + 1) (fun l => absurd l (by omega)) (.slice cS len capS) (.int .i64 Vs.a) (.string Vs.s) (.int .i64 Vs.c))
  have u0 := F8.out.c0
  have u1 := F8.out.c1
  go_wp2
  exact bodyPost_ret (v := .tuple #[.slice cP n' capP, .agg #[.int .i64 Vs.x.v.1, .int .i64 Vs.x.v.2], .agg #[.slice cS len capS, .int .i64 Vs.a, .string Vs.s, .int .i64 Vs.c], .int .i64 0]) (by simp [results, Tryz.results6, go_sem, u0, u1, row4_s0 Z8.out (.slice cS len capS), row4_s1 Z8.out (.slice cS len capS) (.int .i64 Vs.a), row4_s2 Z8.out (.slice cS len capS) (.int .i64 Vs.a) (.string Vs.s), row4_s3 Z8.out (.slice cS len capS) (.int .i64 Vs.a) (.string Vs.s) (.int .i64 Vs.c)]) rfl (by
    (try rw [Int.toNat_natCast])
    rw [EQ.out.2.2, ← EQ.out.1, ← EQ.out.2.1]
    exact VxAns.full rfl rfl P9.out O9.out G9.out)

end Go.Proofs.YtccgjbdjbgefiaaGreatDoor
