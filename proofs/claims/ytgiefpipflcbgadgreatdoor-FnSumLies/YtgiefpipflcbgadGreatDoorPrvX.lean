/- What the program's SumProve answers at right arguments: a contract. Conditions: right tables of one length that can be read, a right source with draws left. -/
import Derived.Test.YtgiefpipflcbgadGreatDoorBzas
import Derived.Test.YtgiefpipflcbgadGreatDoorBzar
import Derived.Test.YtgiefpipflcbgadGreatDoorBzap
import Derived.Test.YtgiefpipflcbgadGreatDoorBzam
import Derived.Deep.DeepCutAuto
namespace Go.Proofs.YtgiefpipflcbgadGreatDoor
open Go.ChangeShapes Go.WideShapes Go.ChangeAt Go.RowKit
set_option linter.unusedVariables false
set_option maxRecDepth 100000
set_option linter.unusedSimpArgs false

/-- The first list of an answer has room for what it holds. -/
def rdCap : Ending → Prop
  | .returned (.tuple xs) => (match (xs[0]? : Option Value) with | some (Value.slice _ n c) => n ≤ c ∧ (c : Int) ≤ 9223372036854775807 | _ => True)
  | _ => True
/-- And so have its lists. -/
def rdIn (w : World) (m : Nat) (e : Ending) : Prop := ∀ xs b o n c, e = .returned (.tuple xs) → xs[0]? = some (.slice (some ⟨b, o, none⟩) n c) → ∀ j, j < n → ∃ A, w.cell? ⟨b, o + j, none⟩ = some (.slice A m m)
theorem rdIn.of {w : World} {B : Nat} {t : TypeId} {c : Option Addr} {n cap m : Nat} {H : Nat → Nat} {x2 x3 x4 x5 : Value} (h : w.ownsRow B t 1 (.slice c n cap) n ((List.range n).map (fun j => Value.slice (some ⟨H j, 0, none⟩) m m))) : rdIn w m (.returned (.tuple #[.slice c n cap, x2, x3, x4, x5])) := by
  intro xs b o n' c' e ex j hj
  cases e
  simp at ex
  obtain ⟨rfl, rfl, rfl⟩ := ex
  rcases h.2 with ⟨e, _⟩ | ⟨g, cap', cur, e, _⟩
  · cases e
  · cases e
    have q := h.cells (g := b) rfl j (.slice (some ⟨H j, 0, none⟩) m m) (by rw [List.getElem?_map, List.getElem?_range hj]; rfl)
    rw [Go.WideShapes.add_plain] at q
    exact ⟨_, q⟩
theorem owns_cap {w : World} {B : Nat} {t : TypeId} {z : Nat} {c : Option Addr} {n cap : Nat} {xs : List Value} (h : w.ownsRow B t z (.slice c n cap) n xs) : n ≤ cap ∧ (cap : Int) ≤ 9223372036854775807 := by
  rcases h.2 with ⟨e, _⟩ | ⟨g, cap', cur, e, _, _, h1, h2, _⟩
  · cases e; omega
  · cases e
    unfold maxLen at h2
    omega

set_option maxHeartbeats 8000000 in
theorem prvU_any {k : Nat} (hk : k = 1 ∨ k = 2) (c : Option Addr) (n v cap : Nat) (hn : n = 2 * k) (hv : v ≤ 6) (A : Nat → Option Addr) (L C : Nat → Nat) (f g : Nat → Nat → Int) (Tt : Nat → Nat → Nat → El) (G : Nat → Nat → El) (R : Nat → El) (Qa : Nat → Int) (Qs : Nat → ByteArray) (Qc : Nat → Int) (cs : Option Addr) (len caps : Nat) (fs gs : Nat → Int) (w : World)
    (h : Hid (RowsV w c n A L C f g)) (hL : Hid (∀ i, i < n → L i ≤ 1099511627776)) (hn9 : n ≤ 1099511627776) (hs : Hid (PairV w cs len fs gs)) (htb : Hid (Tabs w)) (hq : Hid (ac8 (k : Int) n L f g = 0)) (hL0 : Hid (L 0 = 2 ^ v)) (hT0 : Hid (Tt 0 = fun i => elF (f i) (g i))) (hok : sokb fs gs len (Qa 0) (Qs 0) (Qc 0) = true) (hsp : spb (Qa 0) (Qc 0) 6 = false)
    (hT : Hid (∀ i, Tt (i + 1) = bdT (Tt i) (R i))) (hG : Hid (∀ i, G i = rdE k (Tt i) (2 ^ (v - 1 - i)))) (hS : Hid (∀ i, Qs (i + 1) = abS (Qs i) (etx (cA (G i)) (cB (G i)) (k + 2)))) (hA : Hid (∀ i, Qa (i + 1) = dnA len (Qa i) 1)) (hC : Hid (∀ i, Qc (i + 1) = dnC len 0 1))
    (hD : Hid (∀ i, drE fs len (Qa i) (Qs (i + 1)) 0 0 = (R i).v.1 ∧ drF gs len (Qa i) (Qs (i + 1)) 0 0 = (R i).v.2)) (hZ : Hid (∀ i, (Qs i).size = 32)) (hB : Hid (∀ i, i < 6 → 0 ≤ Qa i ∧ Qa i + 1 ≤ 1000000)) (hB2 : Hid (∀ i, i ≤ 6 → 0 ≤ Qc i ∧ Qc i ≤ 1000000)) :
    Calls Tryz.prog 10 #[.int .i64 (k : Int), .slice c n cap, .agg #[.slice cs len caps, .int .i64 (Qa 0), .string (Qs 0), .int .i64 (Qc 0)]] w fun e w' => PIAns w 0 v (k + 2) n len G R (fun j => Tt v j 0) fs gs (Qa v) (Qs v) (Qc v) e w' ∧ rdCap e ∧ rdIn w' (k + 2) e := by
  obtain ⟨i0, hi, hz0, hz1, hz2⟩ := info_parts infoExt
  have HI := hik hi
  have HZ0 := hik hz0
  have HZ1 := hik hz1
  have HZ2 := hik hz2
  clear hi hz0 hz1 hz2
  obtain ⟨i1, hi, hz0, hz1, hz2⟩ := info_parts infoRow
  have HJ := hik hi
  have HJ0 := hik hz0
  have HJ1 := hik hz1
  have HJ2 := hik hz2
  clear hi hz0 hz1 hz2
  have HK := hik hk
  have HN := hik hn
  have HOK := hik hok
  have HSP := hik hsp
  have hk2 : k ≤ 2 := by omega
  have hn4 : n ≤ 4 := by omega
  have hn0 : 0 < n := by omega
  have hn0' : (0 : Int) < (n : Int) := by omega
  obtain ⟨p1, p2, p3, p4, p5⟩ := sokb_parts hok
  have HP2 := hik p2
  clear hk hn hok hsp p4 p5 p2
  have A0 : Hid (((w.alloc (.cells #[.slice cs len caps, .int .i64 (Qa 0), .string (Qs 0), .int .i64 (Qc 0)] 28)).alloc (.cells #[.slice none 0 0, .int .i64 0, .string ⟨#[]⟩, .int .i64 0] 28)).rowIs w.heap.size 28 4 (pv4 (.slice cs len caps) (.int .i64 (Qa 0)) (.string (Qs 0)) (.int .i64 (Qc 0)))) := hik (World.rowIs.alloc (row4_new w _ _ _ _ _) _)
  have Z0 : Hid (((w.alloc (.cells #[.slice cs len caps, .int .i64 (Qa 0), .string (Qs 0), .int .i64 (Qc 0)] 28)).alloc (.cells #[.slice none 0 0, .int .i64 0, .string ⟨#[]⟩, .int .i64 0] 28)).rowIs (w.heap.size + 1) 28 4 (pv4 (.slice none 0 0) (.int .i64 0) (.string ⟨#[]⟩) (.int .i64 0))) := hik (by simpa using row4_new (w.alloc (.cells #[.slice cs len caps, .int .i64 (Qa 0), .string (Qs 0), .int .i64 (Qc 0)] 28)) (.slice none 0 0) (.int .i64 0) (.string ⟨#[]⟩) (.int .i64 0) 28)
  have G0 := hik (((Chg.refl nob w).alloc (.cells #[.slice cs len caps, .int .i64 (Qa 0), .string (Qs 0), .int .i64 (Qc 0)] 28)).alloc (.cells #[.slice none 0 0, .int .i64 0, .string ⟨#[]⟩, .int .i64 0] 28))
  go_enter Tryz.func10, Tryz.ntmps10
  go_wp2_with fail
  generalize hE : (w.alloc (.cells #[.slice cs len caps, .int .i64 (Qa 0), .string (Qs 0), .int .i64 (Qc 0)] 28)).alloc (.cells #[.slice none 0 0, .int .i64 0, .string ⟨#[]⟩, .int .i64 0] 28) = W0 at A0 Z0 G0 ⊢
  clear hE
  refine (tabs_any (k : Int) c n cap A L C f g _ (hik (RowsV.keep h.out G0.out)) hL hn9).mono ?_
  rintro e W1 (⟨q', hq', h0, _, _⟩ | ⟨_, k', t, d, ff, b, hKk, hKD, rfl, hCb, hb, k1⟩)
  · exact absurd (hq'.symm.trans hq.out) h0
  obtain rfl : k = k' := by omega
  rw [hL0.out] at hCb
  obtain ⟨bc, hbc⟩ : ∃ bc, bc = W1.heap.size := ⟨_, rfl⟩
  have HS := hik (rowIs_keep A0.out (k1.alloc (.cells #[.int .i64 t, .int .i64 d, .func (.func ff) #[] #[]] 55)))
  have HZ := hik (rowIs_keep Z0.out (k1.alloc (.cells #[.int .i64 t, .int .i64 d, .func (.func ff) #[] #[]] 55)))
  have HCm := hik (show CmB (W1.alloc (.cells #[.int .i64 t, .int .i64 d, .func (.func ff) #[] #[]] 55)) bc t d (.func (.func ff) #[] #[]) from by rw [hbc]; exact CmB.new W1 t d _)
  have HCb := hik (hCb.keep ((Chg.refl nob W1).alloc (.cells #[.int .i64 t, .int .i64 d, .func (.func ff) #[] #[]] 55)))
  have HG := hik (G0.out.trans (k1.alloc (.cells #[.int .i64 t, .int .i64 d, .func (.func ff) #[] #[]] 55)))
  have hbw : w.heap.size + 2 ≤ bc := by have := Z0.out.lt; have := k1.size; omega
  have HKD := hik hKD
  have hbT := hik (show ∀ j x, j < n → x < 2 ^ v → (fun i => fitE (elF (f i) (g i)) (2 ^ v) zE) j x = Tt 0 j x from fun j x _ hx => by rw [hT0.out]; exact fit_in (t := fun i => elF (f i) (g i)) hx)
  clear k1 A0 Z0 G0 hCb hKD hKk
  go_upto_region 2 with fail
  rw [← hbc]
  generalize hE : W1.alloc (.cells #[.int .i64 t, .int .i64 d, .func (.func ff) #[] #[]] 55) = W2 at HS HZ HCm HCb HG ⊢
  clear hE hbc hb
  have hbl := hik (show b < W2.heap.size from HCb.out.lt)
  have x0 : W2.cell? ⟨w.heap.size, 0, none⟩ = some (.slice cs len caps) := HS.out.cell (by omega)
  have x1 : W2.cell? ⟨w.heap.size, 1, none⟩ = some (.int .i64 (Qa 0)) := HS.out.cell (by omega)
  have x2 : W2.cell? ⟨w.heap.size, 2, none⟩ = some (.string (Qs 0)) := HS.out.cell (by omega)
  have x3 : W2.cell? ⟨w.heap.size, 3, none⟩ = some (.int .i64 (Qc 0)) := HS.out.cell (by omega)
  go_wp2_with fail
  refine (sourceOK_any cs len caps (Qa 0) (Qs 0) (Qc 0) fs gs _ (hik (PairV.keep hs.out HG.out)) (by omega) (by have := hZ.out 0; omega)).mono ?_
  rintro e W3 ⟨he, k3⟩
  rw [HOK.out] at he
  subst he
  replace HS := hik (rowIs_keep HS.out k3)
  replace HZ := hik (rowIs_keep HZ.out k3)
  replace HCm := hik (HCm.out.keep k3)
  replace HCb := hik (HCb.out.keep k3)
  replace HG := hik (HG.out.trans k3)
  clear k3 x0 x1 x2 x3
  have x0 : W3.cell? ⟨w.heap.size, 0, none⟩ = some (.slice cs len caps) := HS.out.cell (by omega)
  have x1 : W3.cell? ⟨w.heap.size, 1, none⟩ = some (.int .i64 (Qa 0)) := HS.out.cell (by omega)
  have x2 : W3.cell? ⟨w.heap.size, 2, none⟩ = some (.string (Qs 0)) := HS.out.cell (by omega)
  have x3 : W3.cell? ⟨w.heap.size, 3, none⟩ = some (.int .i64 (Qc 0)) := HS.out.cell (by omega)
  go_wp2_with fail
  refine (left_any cs len caps (Qa 0) (Qs 0) (Qc 0) _ p3.1 p3.2 (hB2.out 0 (by omega)).1 (hB2.out 0 (by omega)).2).mono ?_
  rintro e W4 ⟨lf, rfl, hlf, k4⟩
  have hl6 : ¬ lf < 6 := fun l => by have q := (hlf 6).1 (by omega); rw [HSP.out] at q; cases q
  replace HS := hik (rowIs_keep HS.out k4)
  replace HZ := hik (rowIs_keep HZ.out k4)
  replace HCm := hik (HCm.out.keep k4)
  replace HCb := hik (HCb.out.keep k4)
  replace HG := hik (HG.out.trans k4)
  clear k4 hlf x0 x1 x2 x3
  go_wp2
  obtain ⟨B, hBB⟩ : ∃ B, B = W4.heap.size := ⟨_, rfl⟩
  have hBw := hik (show w.heap.size + 2 ≤ bc ∧ bc < B ∧ b < B ∧ B ≤ W4.heap.size from ⟨hbw, by rw [hBB]; exact HCm.out.lt, by rw [hBB]; exact HCb.out.lt, by omega⟩)
  clear hBB
  go_loopw [12, 14, 15] (fun cu rr pp W => ∃ (i b : Nat) (T : Nat → Nat → El) (H : Nat → Nat) (ci : Option Addr) (capi : Nat) (r0 p0 : Value), i ≤ v ∧ cu = .slice (some ⟨b, 0, none⟩) n n ∧ rr = r0 ∧ pp = p0 ∧ Hid (RdI B W (k + 2) i i r0 p0 H G R) ∧ Hid (Cbs W b n (fun _ => 2 ^ (v - i)) T) ∧ Hid (∀ j x, j < n → x < 2 ^ (v - i) → T j x = Tt i j x) ∧ Hid (W.rowIs w.heap.size 28 4 (pv4 (.slice ci len capi) (.int .i64 (Qa i)) (.string (Qs i)) (.int .i64 (Qc i)))) ∧ Hid (PairV W ci len fs gs) ∧ Hid (W.rowIs (w.heap.size + 1) 28 4 (pv4 (.slice none 0 0) (.int .i64 0) (.string ⟨#[]⟩) (.int .i64 0))) ∧ Hid (CmB W bc t d (.func (.func ff) #[] #[])) ∧ Hid (Chg nob w W) ∧ Hid (B ≤ W.heap.size)) (fun _ rr _ _ => v - lnOf rr)
  case atStart => exact ⟨0, b, _, fun _ => 0, cs, caps, _, _, Nat.zero_le _, rfl, rfl, rfl, hik (RdI.nil _ _ _ _ _ _), HCb, hbT, HS, hik (PairV.keep hs.out HG.out), HZ, HCm, HG, hik hBw.out.2.2.2⟩
  case round =>
    clear HCb hbT HS HZ HCm HG hl6 hbl
    try clear x0 x1 x2 x3
    obtain ⟨i, b, T, H, ci, capi, rr, pp, hi, rfl, hrr, hpp, HP, HCb, HTT, HS, HPV, HZ, HCm, HG, HBW⟩ := hrel
    have hrr' := hrr.symm
    have hpp' := hpp.symm
    clear hrr hpp
    subst hrr'
    subst hpp'
    rename World => wi
    obtain ⟨N, hN⟩ : ∃ N, N = 2 ^ (v - i) := ⟨_, rfl⟩
    rw [← hN] at HCb HTT
    have hN64 : N ≤ 64 := by rw [hN]; exact pow_le6 (by omega)
    have xc : wi.cell? ⟨b, 0, none⟩ = some (.int .i64 (N : Int)) := by have q := HCb.out.c hn0; simpa using q
    by_cases hlt : i < v
    · obtain ⟨M, hM⟩ : ∃ M, M = 2 ^ (v - 1 - i) := ⟨_, rfl⟩
      have hNM : N = 2 * M := by rw [hM, hN, show v - i = v - 1 - i + 1 by omega, Nat.pow_succ]; omega
      have hM1 : 1 ≤ M := by rw [hM]; exact Nat.one_le_two_pow
      have hgt : (1 : Int) < (N : Int) := by omega
      have EM := hik (show N / 2 = M ∧ M = 2 ^ (v - (i + 1)) from ⟨by omega, by rw [hM, show v - (i + 1) = v - 1 - i by omega]⟩)
      have HLT := hik hlt
      have EG := hik (show ∀ x, rdX k T (N / 2) x = G i x from fun x => by
        rw [EM.out.1, rdX_rd HK.out (t := Tt i) (fun j x hj hx => HTT.out j x (by have := HN.out; omega) (by omega)) x, hG.out i, ← hM])
      have ETT := hik (show ∀ j x, j < n → x < M → bdE (T j) (R i) M x = Tt (i + 1) j x from fun j x hj hx => by
        rw [hT.out i]
        unfold bdE bdT El.fldE
        rw [if_pos hx, HTT.out j _ hj (by omega), HTT.out j _ hj (by omega)])
      have QR := hik (fun (W : World) (hw : Hid (Cbs W b n (fun _ => N) T)) => round_any HKD.out b n N HN.out hN64 T W hw)
      have QB := hik (fun (W : World) (hw : Hid (Cbs W b n (fun _ => N) T)) => bounds_any b n N (R i) hn4 hN64 T W hw)
      rw [EM.out.1] at QB
      have QW := hik (fun (gG : Nat) (W : World) (ht : Hid (Tabs W)) (hw : Hid (PairV W ci len fs gs)) (hg : Hid (RowE W gG (k + 2) (G i))) => answering_any ci len capi fs gs (Qa i) (Qs i) (Qc i) (some ⟨gG, 0, none⟩) (k + 2) (k + 2) (cA (G i)) (cB (G i)) W ht hw (hik hg.out.pairs) (sokb_mk8 HP2.out p1 ⟨(hB.out i (by omega)).1, by have := (hB.out i (by omega)).2; omega⟩ (hZ.out i) (hB2.out i (by omega))) (okP_el _ _) (by omega) (hB.out i (by omega)).2)
      rw [← hA.out i, ← hS.out i, ← hC.out i, (hD.out i).1, (hD.out i).2] at QW
      have HLN := hik (owns_ln HP.out.oR)
      clear hN hM hNM hlt
      have m0 := HCm.out.c0
      have m1 := HCm.out.c1
      have m2 := HCm.out.c2
      go_wp2_with fail
      refine (QR.out _ HCb).mono ?_
      rintro e W1 ⟨gG, rfl, hR, hgG, k1⟩
      have RG := hik (hR.congr (fun x _ => EG.out x))
      have hw1 := hik (show wi.heap.size ≤ gG ∧ gG < W1.heap.size ∧ wi.heap.size ≤ W1.heap.size from ⟨hgG, hR.lt, k1.size⟩)
      have hlow := hik (show ∀ x, rr.ownBlock = some x ∨ pp.ownBlock = some x → B ≤ x ∧ x < wi.heap.size from fun x e => HP.out.low x e)
      have hHl := hik (show ∀ j, j < i → H j < wi.heap.size from fun j hj => (HP.out.inn j hj).2.1.lt)
      have HBWi := HBW
      replace HP := hik (HP.out.keep k1)
      replace HCb := hik (HCb.out.keep k1)
      replace HS := hik (rowIs_keep HS.out k1)
      replace HZ := hik (rowIs_keep HZ.out k1)
      replace HCm := hik (HCm.out.keep k1)
      replace HG := hik (HG.out.trans k1)
      replace HPV := hik (PairV.keep HPV.out k1)
      replace HBW := hik (Nat.le_trans HBW.out k1.size)
      clear k1 m0 m1 m2 xc hR hgG QR
      have x0 : W1.cell? ⟨w.heap.size, 0, none⟩ = some (.slice ci len capi) := HS.out.cell (by omega)
      have x1 : W1.cell? ⟨w.heap.size, 1, none⟩ = some (.int .i64 (Qa i)) := HS.out.cell (by omega)
      have x2 : W1.cell? ⟨w.heap.size, 2, none⟩ = some (.string (Qs i)) := HS.out.cell (by omega)
      have x3 : W1.cell? ⟨w.heap.size, 3, none⟩ = some (.int .i64 (Qc i)) := HS.out.cell (by omega)
      go_wp2_with fail
      refine (QW.out gG _ (hik (htb.out.keep HG.out)) HPV RG).mono ?_
      rintro e W2 ⟨c2, cap2, rfl, hO, k2⟩
      have OC := hik hO
      replace HP := hik (HP.out.keep k2)
      replace HCb := hik (HCb.out.keep k2)
      replace HS := hik (rowIs_keep HS.out k2)
      replace HZ := hik (rowIs_keep HZ.out k2)
      replace HCm := hik (HCm.out.keep k2)
      replace HG := hik (HG.out.trans k2)
      replace HBW := hik (Nat.le_trans HBW.out k2.size)
      replace RG := hik (RG.out.keep k2)
      have hw2 := hik (show wi.heap.size ≤ gG ∧ gG < W1.heap.size ∧ W1.heap.size ≤ W2.heap.size from ⟨hw1.out.1, hw1.out.2.1, k2.size⟩)
      clear k2 hO HPV QW hw1 x0 x1 x2 x3
      go_upto_region 13 with fail
      obtain ⟨ba, hba⟩ : ∃ ba, ba = W2.heap.size := ⟨_, rfl⟩
      have kA := ((Chg.refl nob W2).alloc (.cells #[.slice c2 len cap2, .int .i64 (Qa (i + 1)), .string (Qs (i + 1)), .int .i64 (Qc (i + 1))] 28)).alloc (.cells #[.int .i64 (R i).v.1, .int .i64 (R i).v.2] 31)
      have BA : Hid (((W2.alloc (.cells #[.slice c2 len cap2, .int .i64 (Qa (i + 1)), .string (Qs (i + 1)), .int .i64 (Qc (i + 1))] 28)).alloc (.cells #[.int .i64 (R i).v.1, .int .i64 (R i).v.2] 31)).rowIs ba 28 4 (pv4 (.slice c2 len cap2) (.int .i64 (Qa (i + 1))) (.string (Qs (i + 1))) (.int .i64 (Qc (i + 1))))) := hik (by rw [hba]; exact World.rowIs.alloc (row4_new W2 _ _ _ _ _) _)
      have BX : Hid (ElB ((W2.alloc (.cells #[.slice c2 len cap2, .int .i64 (Qa (i + 1)), .string (Qs (i + 1)), .int .i64 (Qc (i + 1))] 28)).alloc (.cells #[.int .i64 (R i).v.1, .int .i64 (R i).v.2] 31)) (ba + 1) (R i)) := hik (by rw [hba]; simpa using ElB.new (W2.alloc (.cells #[.slice c2 len cap2, .int .i64 (Qa (i + 1)), .string (Qs (i + 1)), .int .i64 (Qc (i + 1))] 28)) (R i))
      have s5 : ((W2.alloc (.cells #[.slice c2 len cap2, .int .i64 (Qa (i + 1)), .string (Qs (i + 1)), .int .i64 (Qc (i + 1))] 28)).alloc (.cells #[.int .i64 (R i).v.1, .int .i64 (R i).v.2] 31)).heap.size = ba + 2 := by rw [hba]; simp
      replace HP := hik (HP.out.keep kA)
      replace HCb := hik (HCb.out.keep kA)
      replace HS := hik (rowIs_keep HS.out kA)
      replace HZ := hik (rowIs_keep HZ.out kA)
      replace HCm := hik (HCm.out.keep kA)
      replace HG := hik (HG.out.trans kA)
      replace HBW := hik (Nat.le_trans HBW.out kA.size)
      replace RG := hik (RG.out.keep kA)
      replace OC := hik (OC.out.keep kA)
      rw [← hba]
      generalize hE : (W2.alloc (.cells #[.slice c2 len cap2, .int .i64 (Qa (i + 1)), .string (Qs (i + 1)), .int .i64 (Qc (i + 1))] 28)).alloc (.cells #[.int .i64 (R i).v.1, .int .i64 (R i).v.2] 31) = W5 at BA BX HP HCb HS HZ HCm HG HBW RG OC s5 ⊢
      have hw5 := hik (show wi.heap.size ≤ gG ∧ gG < W1.heap.size ∧ W1.heap.size ≤ ba ∧ W5.heap.size = ba + 2 from ⟨hw2.out.1, hw2.out.2.1, by rw [hba]; exact hw2.out.2.2, s5⟩)
      clear hE hba kA s5 hw2
      have nP := hik (show ∀ x, ¬ x < wi.heap.size → ¬ (rr.ownBlock = some x ∨ pp.ownBlock = some x) from fun x hx e => hx (hlow.out x e).2)
      go_cut [14, 15] (fun r2 p2 W => ∃ H2 : Nat → Nat, Hid (RdI B W (k + 2) (i + 1) (i + 1) r2 p2 H2 G R) ∧ Hid (Chg (fun x => rr.ownBlock = some x ∨ pp.ownBlock = some x) W5 W))
      case first =>
        as_aux_lemma =>
          have y0 := BX.out.c0
          have y1 := BX.out.c1
          have hbx := hik (nP.out (ba + 1) (by have := hw5.out; omega))
          have KW := hik ((Chg.refl (fun x => rr.ownBlock = some x ∨ pp.ownBlock = some x) W5).drew1)
          have SA := hik (fun (WW : World) (kW : Chg (fun x => rr.ownBlock = some x ∨ pp.ownBlock = some x) W5 WW) => (show (WW.cell? ⟨ba + 1, 0, none⟩ = some (.int .i64 (R i).v.1) ∧ WW.cell? ⟨ba + 1, 1, none⟩ = some (.int .i64 (R i).v.2)) from ⟨kW.seeP y0 hbx.out, kW.seeP y1 hbx.out⟩))
          refine wp_region_held_drew (S := fun w' => w'.cell? ⟨ba + 1, 0, none⟩ = some (.int .i64 (R i).v.1) ∧ w'.cell? ⟨ba + 1, 1, none⟩ = some (.int .i64 (R i).v.2)) (by kernel_rfl) (SA.out _ KW.out) (fun hHeld => ?_)
          replace HP := hik (HP.out.keep (Chg.refl nob W5).drew1)
          generalize hV0 : W5.drew = V0 at KW HP hHeld ⊢
          clear hV0
          refine wpAnyH_take (i := 0) (v := ?_) rfl (by kernel_rfl) (by kernel_rfl) (by kernel_rfl) (fun _ _ _ h => h) (Or.inl ⟨by rfl, ?_⟩) (by assumption) ?_
          rotate_left 1
          · (intro w' hSw; (try dsimp only at hSw); go_simp; try with_reducible rfl)
          try simp only [Act.put, List.setIfInBounds_toArray, List.set_cons_zero, List.set_cons_succ, List.getElem_toArray, List.getElem_cons_zero, List.getElem_cons_succ]
          refine wpAnyH_take (i := 1) (v := ?_) rfl (by kernel_rfl) (by kernel_rfl) (by kernel_rfl) (fun _ _ _ h => h) (Or.inl ⟨by rfl, ?_⟩) (by assumption) ?_
          rotate_left 1
          · (intro w' hSw; (try dsimp only at hSw); go_simp; try with_reducible rfl)
          try simp only [Act.put, List.setIfInBounds_toArray, List.set_cons_zero, List.set_cons_succ, List.getElem_toArray, List.getElem_cons_zero, List.getElem_cons_succ]
          refine wpAnyH_take (i := 4) (v := ?_) rfl (by kernel_rfl) (by kernel_rfl) (by kernel_rfl) (fun _ _ _ h => h) (Or.inl ⟨by rfl, ?_⟩) (by assumption) ?_
          rotate_left 1
          · (intro w' hSw; (try dsimp only at hSw); go_simp; try with_reducible rfl)
          try simp only [Act.put, List.setIfInBounds_toArray, List.set_cons_zero, List.set_cons_succ, List.getElem_toArray, List.getElem_cons_zero, List.getElem_cons_succ]
          refine wpAnyH_take (i := 5) (v := ?_) rfl (by kernel_rfl) (by kernel_rfl) (by kernel_rfl) (fun _ _ _ h => h) (Or.inl ⟨by rfl, ?_⟩) (by assumption) ?_
          rotate_left 1
          · (intro w' hSw; (try dsimp only at hSw); go_simp; try with_reducible rfl)
          try simp only [Act.put, List.setIfInBounds_toArray, List.set_cons_zero, List.set_cons_succ, List.getElem_toArray, List.getElem_cons_zero, List.getElem_cons_succ]
          refine wpAnyH_ready (rs := [2, 6]) (by kernel_rfl) (by simp) ?_
          refine AllReadyH.cons rfl (fun K hK => ?_) ?_
          · simp only [List.getElem_toArray, List.getElem_cons_zero, List.getElem_cons_succ]
            go_simp
            obtain ⟨x1, hx1⟩ : ∃ q, q = V0.heap.size := ⟨_, rfl⟩
            have n1 : Hid ((V0.alloc (.cells #[.slice (some ⟨gG, 0, none⟩) (k + 2) (k + 2)] 26)).cell? ⟨x1, 0, none⟩ = some (.slice (some ⟨gG, 0, none⟩) (k + 2) (k + 2))) := hik (by rw [hx1]; simp)
            have l1 := hik (show W5.heap.size ≤ x1 from by rw [hx1]; exact KW.out.size)
            replace HP := hik (HP.out.keep ((Chg.refl nob V0).alloc (.cells #[.slice (some ⟨gG, 0, none⟩) (k + 2) (k + 2)] 26)))
            replace KW := hik (KW.out.alloc (.cells #[.slice (some ⟨gG, 0, none⟩) (k + 2) (k + 2)] 26))
            generalize hUA : World.alloc V0 (.cells #[.slice (some ⟨gG, 0, none⟩) (k + 2) (k + 2)] 26) = V1 at n1 HP KW ⊢
            clear hUA
            rw [← hx1]
            clear hx1
            refine hK.out _ _ (SA.out _ KW.out) (fun hHeld => ?_)
            clear hK K
            try simp only [Act.put, List.setIfInBounds_toArray, List.set_cons_zero, List.set_cons_succ, List.getElem_toArray, List.getElem_cons_zero, List.getElem_cons_succ]
            refine wpAnyH_ready (rs := [3, 6]) (by kernel_rfl) (by simp) ?_
            refine AllReadyH.cons rfl (fun K hK => ?_) ?_
            · refine step_append_lies _ rfl (.tmp 54) (.tmp 56) 24 (by rfl) B 26 i1 (.slice none 0 0) 1 24 Tryz.underlying24 HJ.out HJ0.out HJ1.out HJ2.out rfl (by decide) rr i _ (by rfl) HP.out.oR ⟨x1, 0, none⟩ 1 1 [.slice (some ⟨gG, 0, none⟩) (k + 2) (k + 2)] (by rfl) (by rfl) ?n1_1 (rwOne _ _ _) (by omega) (by unfold maxLen; omega) (by omega) ?n2_1 _ rfl (fun g7 cp7 w7 o7 hg7 hat7 hlt7 => ?_)
              case n1_1 =>
                intro j u hj
                match j, hj with
                | 0, hj => simp at hj; subst hj; simpa [Addr.add] using n1.out
                | j + 1, hj => simp at hj
              case n2_1 => exact Nat.le_trans HBW.out KW.out.size
              have HP7 := hik (HP.out.round (Nat.le_trans HBWi.out hw5.out.1) (RG.out.chg KW.out (nP.out gG (by have := hw5.out; omega))) (fun e => nP.out gG (by have := hw5.out; omega) (.inr e)) (fun j hj e => by have := hHl.out j hj; have := hw5.out; omega) hg7 o7)
              have K7 := hik (Chg.mono (Q := (fun x => rr.ownBlock = some x ∨ pp.ownBlock = some x)) (grown_chg hg7) (fun x _ e => .inl e))
              replace KW := hik (KW.out.trans K7.out)
              replace HP := HP7
              clear HP7 K7 o7 hg7 hat7 hlt7 n1 l1
              refine hK.out _ _ (SA.out _ KW.out) (fun hHeld => ?_)
              clear hK K
              try simp only [Act.put, List.setIfInBounds_toArray, List.set_cons_zero, List.set_cons_succ, List.getElem_toArray, List.getElem_cons_zero, List.getElem_cons_succ]
              refine wpAnyH_ready (rs := [6]) (by kernel_rfl) (by simp) ?_
              refine AllReadyH.cons rfl (fun K hK => ?_) AllReadyH.nil
              simp only [List.getElem_toArray, List.getElem_cons_zero, List.getElem_cons_succ]
              go_simp
              obtain ⟨x2, hx2⟩ : ∃ q, q = w7.heap.size := ⟨_, rfl⟩
              have n2 : Hid ((w7.alloc (.cells #[.int .i64 (R i).v.1, .int .i64 (R i).v.2] 31)).cell? ⟨x2, 0, none⟩ = some (.int .i64 (R i).v.1) ∧ (w7.alloc (.cells #[.int .i64 (R i).v.1, .int .i64 (R i).v.2] 31)).cell? ⟨x2, 1, none⟩ = some (.int .i64 (R i).v.2)) := hik (by rw [hx2]; constructor <;> simp)
              have l2 := hik (show W5.heap.size ≤ x2 from by rw [hx2]; exact KW.out.size)
              replace HP := hik (HP.out.keep ((Chg.refl nob w7).alloc (.cells #[.int .i64 (R i).v.1, .int .i64 (R i).v.2] 31)))
              replace KW := hik (KW.out.alloc (.cells #[.int .i64 (R i).v.1, .int .i64 (R i).v.2] 31))
              generalize hUA : World.alloc w7 (.cells #[.int .i64 (R i).v.1, .int .i64 (R i).v.2] 31) = V3 at n2 HP KW ⊢
              clear hUA
              rw [← hx2]
              clear hx2
              refine hK.out _ _ (SA.out _ KW.out) (fun hHeld => ?_)
              clear hK K
              try simp only [Act.put, List.setIfInBounds_toArray, List.set_cons_zero, List.set_cons_succ, List.getElem_toArray, List.getElem_cons_zero, List.getElem_cons_succ]
              refine wpAnyH_ready (rs := [7]) (by kernel_rfl) (by simp) ?_
              refine AllReadyH.cons rfl (fun K hK => ?_) AllReadyH.nil
              refine step_append_lies _ rfl (.tmp 58) (.tmp 60) 26 (by rfl) B 31 i0 (.agg #[.int .i64 0, .int .i64 0]) 2 16 Tryz.underlying26 HI.out HZ0.out HZ1.out HZ2.out rfl (by decide) pp i _ (by rfl) HP.out.oP ⟨x2, 0, none⟩ 1 1 [.int .i64 (R i).v.1, .int .i64 (R i).v.2] (by rfl) (by rfl) ?n3_2 (flOne _ _) (by omega) (by unfold maxLen; omega) (by omega) ?n4_2 _ rfl (fun g8 cp8 w8 o8 hg8 hat8 hlt8 => ?_)
              case n3_2 =>
                intro j u hj
                match j, hj with
                | 0, hj => simp at hj; subst hj; simpa [Addr.add] using n2.out.1
                | 1, hj => simp at hj; subst hj; simpa [Addr.add] using n2.out.2
                | j + 2, hj => simp at hj
              case n4_2 => exact Nat.le_trans HBW.out KW.out.size
              have HP8 := hik (HP.out.point hg8 hat8 o8)
              have K8 := hik (Chg.mono (Q := (fun x => rr.ownBlock = some x ∨ pp.ownBlock = some x)) (grown_chg hg8) (fun x _ e => .inr e))
              replace KW := hik (KW.out.trans K8.out)
              replace HP := HP8
              clear HP8 K8 o8 hg8 hat8 hlt8 n2 l2
              refine hK.out _ _ (SA.out _ KW.out) (fun hHeld => ?_)
              clear hK K
              try simp only [Act.put, List.setIfInBounds_toArray, List.set_cons_zero, List.set_cons_succ, List.getElem_toArray, List.getElem_cons_zero, List.getElem_cons_succ]
              refine wpAnyH_take (i := 8) (v := ?_) rfl (by kernel_rfl) (by kernel_rfl) (by kernel_rfl) (fun _ _ _ h => h) (Or.inl ⟨by rfl, ?_⟩) (by assumption) ?_
              rotate_left 1
              · (intro w' hSw; (try dsimp only at hSw); go_simp; try with_reducible rfl)
              try simp only [Act.put, List.setIfInBounds_toArray, List.set_cons_zero, List.set_cons_succ, List.getElem_toArray, List.getElem_cons_zero, List.getElem_cons_succ]
              refine wpAnyH_take (i := 9) (v := ?_) rfl (by kernel_rfl) (by kernel_rfl) (by kernel_rfl) (fun _ _ _ h => h) (Or.inl ⟨by rfl, ?_⟩) (by assumption) ?_
              rotate_left 1
              · (intro w' hSw; (try dsimp only at hSw); go_simp; try with_reducible rfl)
              try simp only [Act.put, List.setIfInBounds_toArray, List.set_cons_zero, List.set_cons_succ, List.getElem_toArray, List.getElem_cons_zero, List.getElem_cons_succ]
              refine wpAnyH_done (by kernel_rfl) ?_ _
              clear SA
              go_wp2_with fail
              go_meet
              exact ⟨_, HP, KW⟩
            · refine AllReadyH.cons rfl (fun K hK => ?_) AllReadyH.nil
              simp only [List.getElem_toArray, List.getElem_cons_zero, List.getElem_cons_succ]
              go_simp
              obtain ⟨x2, hx2⟩ : ∃ q, q = V1.heap.size := ⟨_, rfl⟩
              have n2 : Hid ((V1.alloc (.cells #[.int .i64 (R i).v.1, .int .i64 (R i).v.2] 31)).cell? ⟨x2, 0, none⟩ = some (.int .i64 (R i).v.1) ∧ (V1.alloc (.cells #[.int .i64 (R i).v.1, .int .i64 (R i).v.2] 31)).cell? ⟨x2, 1, none⟩ = some (.int .i64 (R i).v.2)) := hik (by rw [hx2]; constructor <;> simp)
              have l2 := hik (show W5.heap.size ≤ x2 from by rw [hx2]; exact KW.out.size)
              replace n1 := hik (((Chg.refl nob V1).alloc (.cells #[.int .i64 (R i).v.1, .int .i64 (R i).v.2] 31)).see n1.out)
              replace HP := hik (HP.out.keep ((Chg.refl nob V1).alloc (.cells #[.int .i64 (R i).v.1, .int .i64 (R i).v.2] 31)))
              replace KW := hik (KW.out.alloc (.cells #[.int .i64 (R i).v.1, .int .i64 (R i).v.2] 31))
              generalize hUA : World.alloc V1 (.cells #[.int .i64 (R i).v.1, .int .i64 (R i).v.2] 31) = V2 at n2 HP KW n1 ⊢
              clear hUA
              rw [← hx2]
              clear hx2
              refine hK.out _ _ (SA.out _ KW.out) (fun hHeld => ?_)
              clear hK K
              try simp only [Act.put, List.setIfInBounds_toArray, List.set_cons_zero, List.set_cons_succ, List.getElem_toArray, List.getElem_cons_zero, List.getElem_cons_succ]
              refine wpAnyH_ready (rs := [3]) (by kernel_rfl) (by simp) ?_
              refine AllReadyH.cons rfl (fun K hK => ?_) AllReadyH.nil
              refine step_append_lies _ rfl (.tmp 54) (.tmp 56) 24 (by rfl) B 26 i1 (.slice none 0 0) 1 24 Tryz.underlying24 HJ.out HJ0.out HJ1.out HJ2.out rfl (by decide) rr i _ (by rfl) HP.out.oR ⟨x1, 0, none⟩ 1 1 [.slice (some ⟨gG, 0, none⟩) (k + 2) (k + 2)] (by rfl) (by rfl) ?n1_3 (rwOne _ _ _) (by omega) (by unfold maxLen; omega) (by omega) ?n2_3 _ rfl (fun g7 cp7 w7 o7 hg7 hat7 hlt7 => ?_)
              case n1_3 =>
                intro j u hj
                match j, hj with
                | 0, hj => simp at hj; subst hj; simpa [Addr.add] using n1.out
                | j + 1, hj => simp at hj
              case n2_3 => exact Nat.le_trans HBW.out KW.out.size
              have HP7 := hik (HP.out.round (Nat.le_trans HBWi.out hw5.out.1) (RG.out.chg KW.out (nP.out gG (by have := hw5.out; omega))) (fun e => nP.out gG (by have := hw5.out; omega) (.inr e)) (fun j hj e => by have := hHl.out j hj; have := hw5.out; omega) hg7 o7)
              have K7 := hik (Chg.mono (Q := (fun x => rr.ownBlock = some x ∨ pp.ownBlock = some x)) (grown_chg hg7) (fun x _ e => .inl e))
              replace n2 := hik (And.intro (K7.out.seeP n2.out.1 (nP.out x2 (by have := hw5.out; have := l2.out; omega))) (K7.out.seeP n2.out.2 (nP.out x2 (by have := hw5.out; have := l2.out; omega))))
              replace KW := hik (KW.out.trans K7.out)
              replace HP := HP7
              clear HP7 K7 o7 hg7 hat7 hlt7 n1 l1
              refine hK.out _ _ (SA.out _ KW.out) (fun hHeld => ?_)
              clear hK K
              try simp only [Act.put, List.setIfInBounds_toArray, List.set_cons_zero, List.set_cons_succ, List.getElem_toArray, List.getElem_cons_zero, List.getElem_cons_succ]
              refine wpAnyH_ready (rs := [7]) (by kernel_rfl) (by simp) ?_
              refine AllReadyH.cons rfl (fun K hK => ?_) AllReadyH.nil
              refine step_append_lies _ rfl (.tmp 58) (.tmp 60) 26 (by rfl) B 31 i0 (.agg #[.int .i64 0, .int .i64 0]) 2 16 Tryz.underlying26 HI.out HZ0.out HZ1.out HZ2.out rfl (by decide) pp i _ (by rfl) HP.out.oP ⟨x2, 0, none⟩ 1 1 [.int .i64 (R i).v.1, .int .i64 (R i).v.2] (by rfl) (by rfl) ?n3_4 (flOne _ _) (by omega) (by unfold maxLen; omega) (by omega) ?n4_4 _ rfl (fun g8 cp8 w8 o8 hg8 hat8 hlt8 => ?_)
              case n3_4 =>
                intro j u hj
                match j, hj with
                | 0, hj => simp at hj; subst hj; simpa [Addr.add] using n2.out.1
                | 1, hj => simp at hj; subst hj; simpa [Addr.add] using n2.out.2
                | j + 2, hj => simp at hj
              case n4_4 => exact Nat.le_trans HBW.out KW.out.size
              have HP8 := hik (HP.out.point hg8 hat8 o8)
              have K8 := hik (Chg.mono (Q := (fun x => rr.ownBlock = some x ∨ pp.ownBlock = some x)) (grown_chg hg8) (fun x _ e => .inr e))
              replace KW := hik (KW.out.trans K8.out)
              replace HP := HP8
              clear HP8 K8 o8 hg8 hat8 hlt8 n2 l2
              refine hK.out _ _ (SA.out _ KW.out) (fun hHeld => ?_)
              clear hK K
              try simp only [Act.put, List.setIfInBounds_toArray, List.set_cons_zero, List.set_cons_succ, List.getElem_toArray, List.getElem_cons_zero, List.getElem_cons_succ]
              refine wpAnyH_take (i := 8) (v := ?_) rfl (by kernel_rfl) (by kernel_rfl) (by kernel_rfl) (fun _ _ _ h => h) (Or.inl ⟨by rfl, ?_⟩) (by assumption) ?_
              rotate_left 1
              · (intro w' hSw; (try dsimp only at hSw); go_simp; try with_reducible rfl)
              try simp only [Act.put, List.setIfInBounds_toArray, List.set_cons_zero, List.set_cons_succ, List.getElem_toArray, List.getElem_cons_zero, List.getElem_cons_succ]
              refine wpAnyH_take (i := 9) (v := ?_) rfl (by kernel_rfl) (by kernel_rfl) (by kernel_rfl) (fun _ _ _ h => h) (Or.inl ⟨by rfl, ?_⟩) (by assumption) ?_
              rotate_left 1
              · (intro w' hSw; (try dsimp only at hSw); go_simp; try with_reducible rfl)
              try simp only [Act.put, List.setIfInBounds_toArray, List.set_cons_zero, List.set_cons_succ, List.getElem_toArray, List.getElem_cons_zero, List.getElem_cons_succ]
              refine wpAnyH_done (by kernel_rfl) ?_ _
              clear SA
              go_wp2_with fail
              go_meet
              exact ⟨_, HP, KW⟩
          · refine AllReadyH.cons rfl (fun K hK => ?_) AllReadyH.nil
            simp only [List.getElem_toArray, List.getElem_cons_zero, List.getElem_cons_succ]
            go_simp
            obtain ⟨x2, hx2⟩ : ∃ q, q = V0.heap.size := ⟨_, rfl⟩
            have n2 : Hid ((V0.alloc (.cells #[.int .i64 (R i).v.1, .int .i64 (R i).v.2] 31)).cell? ⟨x2, 0, none⟩ = some (.int .i64 (R i).v.1) ∧ (V0.alloc (.cells #[.int .i64 (R i).v.1, .int .i64 (R i).v.2] 31)).cell? ⟨x2, 1, none⟩ = some (.int .i64 (R i).v.2)) := hik (by rw [hx2]; constructor <;> simp)
            have l2 := hik (show W5.heap.size ≤ x2 from by rw [hx2]; exact KW.out.size)
            replace HP := hik (HP.out.keep ((Chg.refl nob V0).alloc (.cells #[.int .i64 (R i).v.1, .int .i64 (R i).v.2] 31)))
            replace KW := hik (KW.out.alloc (.cells #[.int .i64 (R i).v.1, .int .i64 (R i).v.2] 31))
            generalize hUA : World.alloc V0 (.cells #[.int .i64 (R i).v.1, .int .i64 (R i).v.2] 31) = V1 at n2 HP KW ⊢
            clear hUA
            rw [← hx2]
            clear hx2
            refine hK.out _ _ (SA.out _ KW.out) (fun hHeld => ?_)
            clear hK K
            try simp only [Act.put, List.setIfInBounds_toArray, List.set_cons_zero, List.set_cons_succ, List.getElem_toArray, List.getElem_cons_zero, List.getElem_cons_succ]
            refine wpAnyH_ready (rs := [2]) (by kernel_rfl) (by simp) ?_
            refine AllReadyH.cons rfl (fun K hK => ?_) AllReadyH.nil
            simp only [List.getElem_toArray, List.getElem_cons_zero, List.getElem_cons_succ]
            go_simp
            obtain ⟨x1, hx1⟩ : ∃ q, q = V1.heap.size := ⟨_, rfl⟩
            have n1 : Hid ((V1.alloc (.cells #[.slice (some ⟨gG, 0, none⟩) (k + 2) (k + 2)] 26)).cell? ⟨x1, 0, none⟩ = some (.slice (some ⟨gG, 0, none⟩) (k + 2) (k + 2))) := hik (by rw [hx1]; simp)
            have l1 := hik (show W5.heap.size ≤ x1 from by rw [hx1]; exact KW.out.size)
            replace n2 := hik (And.intro (((Chg.refl nob V1).alloc (.cells #[.slice (some ⟨gG, 0, none⟩) (k + 2) (k + 2)] 26)).see n2.out.1) (((Chg.refl nob V1).alloc (.cells #[.slice (some ⟨gG, 0, none⟩) (k + 2) (k + 2)] 26)).see n2.out.2))
            replace HP := hik (HP.out.keep ((Chg.refl nob V1).alloc (.cells #[.slice (some ⟨gG, 0, none⟩) (k + 2) (k + 2)] 26)))
            replace KW := hik (KW.out.alloc (.cells #[.slice (some ⟨gG, 0, none⟩) (k + 2) (k + 2)] 26))
            generalize hUA : World.alloc V1 (.cells #[.slice (some ⟨gG, 0, none⟩) (k + 2) (k + 2)] 26) = V2 at n1 HP KW n2 ⊢
            clear hUA
            rw [← hx1]
            clear hx1
            refine hK.out _ _ (SA.out _ KW.out) (fun hHeld => ?_)
            clear hK K
            try simp only [Act.put, List.setIfInBounds_toArray, List.set_cons_zero, List.set_cons_succ, List.getElem_toArray, List.getElem_cons_zero, List.getElem_cons_succ]
            refine wpAnyH_ready (rs := [3]) (by kernel_rfl) (by simp) ?_
            refine AllReadyH.cons rfl (fun K hK => ?_) AllReadyH.nil
            refine step_append_lies _ rfl (.tmp 54) (.tmp 56) 24 (by rfl) B 26 i1 (.slice none 0 0) 1 24 Tryz.underlying24 HJ.out HJ0.out HJ1.out HJ2.out rfl (by decide) rr i _ (by rfl) HP.out.oR ⟨x1, 0, none⟩ 1 1 [.slice (some ⟨gG, 0, none⟩) (k + 2) (k + 2)] (by rfl) (by rfl) ?n1_5 (rwOne _ _ _) (by omega) (by unfold maxLen; omega) (by omega) ?n2_5 _ rfl (fun g7 cp7 w7 o7 hg7 hat7 hlt7 => ?_)
            case n1_5 =>
              intro j u hj
              match j, hj with
              | 0, hj => simp at hj; subst hj; simpa [Addr.add] using n1.out
              | j + 1, hj => simp at hj
            case n2_5 => exact Nat.le_trans HBW.out KW.out.size
            have HP7 := hik (HP.out.round (Nat.le_trans HBWi.out hw5.out.1) (RG.out.chg KW.out (nP.out gG (by have := hw5.out; omega))) (fun e => nP.out gG (by have := hw5.out; omega) (.inr e)) (fun j hj e => by have := hHl.out j hj; have := hw5.out; omega) hg7 o7)
            have K7 := hik (Chg.mono (Q := (fun x => rr.ownBlock = some x ∨ pp.ownBlock = some x)) (grown_chg hg7) (fun x _ e => .inl e))
            replace n2 := hik (And.intro (K7.out.seeP n2.out.1 (nP.out x2 (by have := hw5.out; have := l2.out; omega))) (K7.out.seeP n2.out.2 (nP.out x2 (by have := hw5.out; have := l2.out; omega))))
            replace KW := hik (KW.out.trans K7.out)
            replace HP := HP7
            clear HP7 K7 o7 hg7 hat7 hlt7 n1 l1
            refine hK.out _ _ (SA.out _ KW.out) (fun hHeld => ?_)
            clear hK K
            try simp only [Act.put, List.setIfInBounds_toArray, List.set_cons_zero, List.set_cons_succ, List.getElem_toArray, List.getElem_cons_zero, List.getElem_cons_succ]
            refine wpAnyH_ready (rs := [7]) (by kernel_rfl) (by simp) ?_
            refine AllReadyH.cons rfl (fun K hK => ?_) AllReadyH.nil
            refine step_append_lies _ rfl (.tmp 58) (.tmp 60) 26 (by rfl) B 31 i0 (.agg #[.int .i64 0, .int .i64 0]) 2 16 Tryz.underlying26 HI.out HZ0.out HZ1.out HZ2.out rfl (by decide) pp i _ (by rfl) HP.out.oP ⟨x2, 0, none⟩ 1 1 [.int .i64 (R i).v.1, .int .i64 (R i).v.2] (by rfl) (by rfl) ?n3_6 (flOne _ _) (by omega) (by unfold maxLen; omega) (by omega) ?n4_6 _ rfl (fun g8 cp8 w8 o8 hg8 hat8 hlt8 => ?_)
            case n3_6 =>
              intro j u hj
              match j, hj with
              | 0, hj => simp at hj; subst hj; simpa [Addr.add] using n2.out.1
              | 1, hj => simp at hj; subst hj; simpa [Addr.add] using n2.out.2
              | j + 2, hj => simp at hj
            case n4_6 => exact Nat.le_trans HBW.out KW.out.size
            have HP8 := hik (HP.out.point hg8 hat8 o8)
            have K8 := hik (Chg.mono (Q := (fun x => rr.ownBlock = some x ∨ pp.ownBlock = some x)) (grown_chg hg8) (fun x _ e => .inr e))
            replace KW := hik (KW.out.trans K8.out)
            replace HP := HP8
            clear HP8 K8 o8 hg8 hat8 hlt8 n2 l2
            refine hK.out _ _ (SA.out _ KW.out) (fun hHeld => ?_)
            clear hK K
            try simp only [Act.put, List.setIfInBounds_toArray, List.set_cons_zero, List.set_cons_succ, List.getElem_toArray, List.getElem_cons_zero, List.getElem_cons_succ]
            refine wpAnyH_take (i := 8) (v := ?_) rfl (by kernel_rfl) (by kernel_rfl) (by kernel_rfl) (fun _ _ _ h => h) (Or.inl ⟨by rfl, ?_⟩) (by assumption) ?_
            rotate_left 1
            · (intro w' hSw; (try dsimp only at hSw); go_simp; try with_reducible rfl)
            try simp only [Act.put, List.setIfInBounds_toArray, List.set_cons_zero, List.set_cons_succ, List.getElem_toArray, List.getElem_cons_zero, List.getElem_cons_succ]
            refine wpAnyH_take (i := 9) (v := ?_) rfl (by kernel_rfl) (by kernel_rfl) (by kernel_rfl) (fun _ _ _ h => h) (Or.inl ⟨by rfl, ?_⟩) (by assumption) ?_
            rotate_left 1
            · (intro w' hSw; (try dsimp only at hSw); go_simp; try with_reducible rfl)
            try simp only [Act.put, List.setIfInBounds_toArray, List.set_cons_zero, List.set_cons_succ, List.getElem_toArray, List.getElem_cons_zero, List.getElem_cons_succ]
            refine wpAnyH_done (by kernel_rfl) ?_ _
            clear SA
            go_wp2_with fail
            go_meet
            exact ⟨_, HP, KW⟩
      case rest =>
        as_aux_lemma =>
          obtain ⟨H2, HP2', KC⟩ := hcut
          rename World => W6
          have n5 := hik (show ¬ (rr.ownBlock = some (ba + 1) ∨ pp.ownBlock = some (ba + 1)) from nP.out (ba + 1) (by have := hw5.out; omega))
          have kd : ∀ {x : Nat} {tt : TypeId} {N : Nat} {ff : Nat → Value}, W5.rowIs x tt N ff → tt ≠ 26 → tt ≠ 31 → ¬ (rr.ownBlock = some x ∨ pp.ownBlock = some x) := fun r h1 h2 e => by
            rcases e with e | e
            · exact h1 (owns_kind HP.out.oR e r).symm
            · exact h2 (owns_kind HP.out.oP e r).symm
          replace HCb := hik (HCb.out.chg KC.out (kd HCb.out (by decide) (by decide)))
          replace HS := hik (rowIs_chg HS.out KC.out (kd HS.out (by decide) (by decide)))
          replace HZ := hik (rowIs_chg HZ.out KC.out (kd HZ.out (by decide) (by decide)))
          replace HCm := hik (HCm.out.chg KC.out (kd HCm.out (by decide) (by decide)))
          replace BA := hik (rowIs_chg BA.out KC.out (kd BA.out (by decide) (by decide)))
          replace BX := hik (BX.out.chg KC.out n5.out)
          replace OC := hik (OC.out.chg KC.out (fun b hb _ => nP.out b (by have := hw5.out; omega)))
          replace HG := hik (HG.out.near KC.out (fun x e => by have := hlow.out x e; have := hBw.out; omega))
          replace HBW := hik (Nat.le_trans HBW.out KC.out.size)
          have hwi := hik (show wi.heap.size ≤ W6.heap.size from by have := hw5.out; have := KC.out.size; omega)
          clear kd KC HP RG n5
          have y0 := BX.out.c0
          have y1 := BX.out.c1
          have x0 : W6.cell? ⟨ba, 0, none⟩ = some (.slice c2 len cap2) := BA.out.cell (by omega)
          have x1 : W6.cell? ⟨ba, 1, none⟩ = some (.int .i64 (Qa (i + 1))) := BA.out.cell (by omega)
          have x2 : W6.cell? ⟨ba, 2, none⟩ = some (.string (Qs (i + 1))) := BA.out.cell (by omega)
          have x3 : W6.cell? ⟨ba, 3, none⟩ = some (.int .i64 (Qc (i + 1))) := BA.out.cell (by omega)
          go_wp2_with fail
          have KW := hik ((Chg.refl nob W6).drew1)
          have SA := hik (fun (WW : World) (kW : Chg nob W6 WW) => (show (WW.cell? ⟨ba + 1, 0, none⟩ = some (.int .i64 (R i).v.1) ∧ WW.cell? ⟨ba + 1, 1, none⟩ = some (.int .i64 (R i).v.2) ∧ WW.cell? ⟨ba, 0, none⟩ = some (.slice c2 len cap2) ∧ WW.cell? ⟨ba, 1, none⟩ = some (.int .i64 (Qa (i + 1))) ∧ WW.cell? ⟨ba, 2, none⟩ = some (.string (Qs (i + 1))) ∧ WW.cell? ⟨ba, 3, none⟩ = some (.int .i64 (Qc (i + 1)))) from ⟨kW.see y0, kW.see y1, kW.see x0, kW.see x1, kW.see x2, kW.see x3⟩))
          refine wp_regionL (L := 5) (S := fun w' => w'.cell? ⟨ba + 1, 0, none⟩ = some (.int .i64 (R i).v.1) ∧ w'.cell? ⟨ba + 1, 1, none⟩ = some (.int .i64 (R i).v.2) ∧ w'.cell? ⟨ba, 0, none⟩ = some (.slice c2 len cap2) ∧ w'.cell? ⟨ba, 1, none⟩ = some (.int .i64 (Qa (i + 1))) ∧ w'.cell? ⟨ba, 2, none⟩ = some (.string (Qs (i + 1))) ∧ w'.cell? ⟨ba, 3, none⟩ = some (.int .i64 (Qc (i + 1)))) (by kernel_rfl) ⟨y0, y1, x0, x1, x2, x3⟩ (fun hHeld => ?_)
          refine wpAnyL_take (i := 0) (v := ?_) rfl (by kernel_rfl) (by kernel_rfl) (by kernel_rfl) (fun _ _ _ h => h) (by rfl) (by kernel_rfl) (by kernel_rfl) (Or.inl ⟨by rfl, ?_⟩) (by assumption) ?_
          rotate_left 1
          · (intro w' hSw; (try dsimp only at hSw); go_simp; try with_reducible rfl)
          try simp only [Act.put, List.setIfInBounds_toArray, List.set_cons_zero, List.set_cons_succ, List.getElem_toArray, List.getElem_cons_zero, List.getElem_cons_succ]
          refine wpAnyL_take (i := 1) (v := ?_) rfl (by kernel_rfl) (by kernel_rfl) (by kernel_rfl) (fun _ _ _ h => h) (by rfl) (by kernel_rfl) (by kernel_rfl) (Or.inl ⟨by rfl, ?_⟩) (by assumption) ?_
          rotate_left 1
          · (intro w' hSw; (try dsimp only at hSw); go_simp; try with_reducible rfl)
          try simp only [Act.put, List.setIfInBounds_toArray, List.set_cons_zero, List.set_cons_succ, List.getElem_toArray, List.getElem_cons_zero, List.getElem_cons_succ]
          refine wpAnyL_take (i := 3) (v := ?_) rfl (by kernel_rfl) (by kernel_rfl) (by kernel_rfl) (fun _ _ _ h => h) (by rfl) (by kernel_rfl) (by kernel_rfl) (Or.inl ⟨by rfl, ?_⟩) (by assumption) ?_
          rotate_left 1
          · (intro w' hSw; (try dsimp only at hSw); go_simp; try with_reducible rfl)
          try simp only [Act.put, List.setIfInBounds_toArray, List.set_cons_zero, List.set_cons_succ, List.getElem_toArray, List.getElem_cons_zero, List.getElem_cons_succ]
          refine wpAnyL_ready (rs := [2]) (by kernel_rfl) (by simp) ?_
          refine AllReadyL.cons rfl (fun K hK => ?_) AllReadyL.nil
          refine stepL_callN 33 #[.tmp 62, .tmp 63] #[56, 31] (by rfl) (by rfl) #[.slice (some ⟨b, 0, none⟩) n n, .agg #[.int .i64 (R i).v.1, .int .i64 (R i).v.2]] (by simp only [List.map_toArray, List.map_cons, List.map_nil] <;> rfl) (run_go Tryz.func33 (by kernel_rfl) (by kernel_rfl) _ _) (QB.out _ (hik (HCb.out.keep KW.out))) ?_
          rintro e U1 ⟨b2, he, hC2, hb2, kk⟩
          have CB2 := hik hC2
          clear hC2 hb2
          refine ⟨_, he, ?_⟩
          replace KW := hik (KW.out.trans kk)
          refine hK.out _ _ (SA.out _ KW.out) (fun hHeld => ?_)
          clear hK K
          try simp only [Act.put, List.setIfInBounds_toArray, List.set_cons_zero, List.set_cons_succ, List.getElem_toArray, List.getElem_cons_zero, List.getElem_cons_succ]
          clear he kk
          refine wpAnyL_take (i := 4) (v := ?_) rfl (by kernel_rfl) (by kernel_rfl) (by kernel_rfl) (fun _ _ _ h => h) (by rfl) (by kernel_rfl) (by kernel_rfl) (Or.inl ⟨by rfl, ?_⟩) (by assumption) ?_
          rotate_left 1
          · (intro w' hSw; (try dsimp only at hSw); go_simp; try with_reducible rfl)
          try simp only [Act.put, List.setIfInBounds_toArray, List.set_cons_zero, List.set_cons_succ, List.getElem_toArray, List.getElem_cons_zero, List.getElem_cons_succ]
          refine wpAnyL_ready (rs := [5]) (by kernel_rfl) (by simp) ?_
          refine AllReadyL.last rfl (by kernel_rfl) (fun K hK => ?_)
          have SN := hik (rowIs_keep HS.out KW.out)
          have z0 : U1.cell? ⟨w.heap.size, 0, none⟩ = some (.slice ci len capi) := SN.out.cell (by omega)
          have zf0 := SN.out.frozen 0
          have z1 : U1.cell? ⟨w.heap.size, 1, none⟩ = some (.int .i64 (Qa i)) := SN.out.cell (by omega)
          have zf1 := SN.out.frozen 1
          have z2 : U1.cell? ⟨w.heap.size, 2, none⟩ = some (.string (Qs i)) := SN.out.cell (by omega)
          have zf2 := SN.out.frozen 2
          have z3 : U1.cell? ⟨w.heap.size, 3, none⟩ = some (.int .i64 (Qc i)) := SN.out.cell (by omega)
          have zf3 := SN.out.frozen 3
          have lz : w.heap.size < U1.heap.size := SN.out.lt
          simp only [List.getElem_toArray, List.getElem_cons_zero, List.getElem_cons_succ]
          go_simp
          refine hK.out _ _ ?_
          clear hK K
          try simp only [Act.put, List.setIfInBounds_toArray, List.set_cons_zero, List.set_cons_succ, List.getElem_toArray, List.getElem_cons_zero, List.getElem_cons_succ]
          clear z0 zf0 z1 zf1 z2 zf2 z3 zf3 lz
          refine wpAnyL_done (by kernel_rfl) ?_ _
          have q := chg4_set (Chg.refl (fun x => x = w.heap.size) U1) w.heap.size (fun _ => rfl) (.slice c2 len cap2) (.int .i64 (Qa (i + 1))) (.string (Qs (i + 1))) (.int .i64 (Qc (i + 1)))
          have SE := hik (row4_set SN.out (.slice c2 len cap2) (.int .i64 (Qa (i + 1))) (.string (Qs (i + 1))) (.int .i64 (Qc (i + 1))))
          have ZE := hik (rowIs_chg (rowIs_keep HZ.out KW.out) q (by omega))
          have ME := hik ((HCm.out.keep KW.out).chg q (by have := hBw.out; omega))
          have CE := hik (CB2.out.chg q (fun e => absurd (rowIs_kind (e ▸ CB2.out) SN.out) (by decide)))
          have PE := hik ((HP2'.out.keep KW.out).chg q (fun b hb (e : b = w.heap.size) => by have := hBw.out; omega))
          have OE := hik ((OC.out.keep KW.out).chg q (fun b hb _ (e : b = w.heap.size) => by have := hw5.out; have := hBw.out; have := HBWi.out; omega))
          have GE := hik (HG.out.trans KW.out |>.near q (fun x (e : x = w.heap.size) => by omega))
          have WE := hik (Nat.le_trans HBW.out (Nat.le_trans KW.out.size q.size))
          clear q
          go_wp2
          go_roundw
          case rel => exact ⟨i + 1, b2, _, H2, c2, cap2, _, _, HLT.out, by rfl, rfl, rfl, PE, hik (by rw [← EM.out.2]; exact CE.out), hik (by rw [← EM.out.2]; exact ETT.out), SE, hik OE.out.pairs, ZE, ME, GE, WE⟩
          case measure => have q1 := owns_ln HP2'.out.oR; have q2 := HLN.out; have := HLT.out; omega
    · have e1 : N = 1 := by rw [hN, show v - i = 0 by omega]
      obtain rfl : i = v := by omega
      have hgt : ¬ (1 : Int) < (N : Int) := by omega
      have E0 := hik (show ∀ j, j < n → T j 0 = Tt i j 0 from fun j hj => HTT.out j 0 hj (by omega))
      have hb16 : i0.bytes * n ≤ 281474976710656 := by rw [HZ2.out]; omega
      have HB16 := hik hb16
      clear hN hlt e1 hb16 HTT hi
      go_wp2_with (at_make; refine wpList_make_pairs _ rfl (.tmp 67) (.tmp 67) 26 rfl 31 i0 Tryz.underlying26 HI.out HZ0.out HZ1.out .i64 .i64 _ _ n rfl rfl rfl rfl HB16.out (by omega) ?_)
      intro W1 r1 k1
      have R1 := hik (show RowE W1 wi.heap.size n zE from r1)
      have K1 := hik k1
      clear r1 k1 xc
      go_wp2
      go_loopw [71] (fun j W => ∃ (q : Nat) (V : Nat → El), q ≤ n ∧ j = .int .i64 (q : Int) ∧ Hid (∀ j, j < q → V j = Tt i j 0) ∧ Hid (RowE W wi.heap.size n V) ∧ Hid (Chg nob wi W)) (fun j _ => n - (intOf j).toNat)
      case atStart => exact ⟨0, zE, Nat.zero_le _, by rfl, hik (fun j hj => absurd hj (by omega)), R1, K1⟩
      case round =>
        clear R1 K1
        obtain ⟨q, V, hq, rfl, HV, HR, HW⟩ := hrel
        rename World => wj
        by_cases hlt : q < n
        · have hq1 : (q : Int) < (n : Int) := by omega
          have hq0 : (0 : Int) ≤ (q : Int) := by omega
          have a0 : wj.cell? ⟨b, q * 129 + 1, none⟩ = some (.int .i64 (Tt i q 0).v.1) := by have z := (HCb.out.keep HW.out).c0 hlt (j := 0) (by omega); rw [E0.out q hlt] at z; simpa using z
          have a1 : wj.cell? ⟨b, q * 129 + 1 + 1, none⟩ = some (.int .i64 (Tt i q 0).v.2) := by have z := (HCb.out.keep HW.out).c1 hlt (j := 0) (by omega); rw [E0.out q hlt] at z; simpa using z
          have g0 := HR.out.c0 hlt
          have g1 := HR.out.c1 hlt
          have f0 := HR.out.fz (q * 2)
          have f1 := HR.out.fz (q * 2 + 1)
          have ln := HR.out.lt
          go_wp2
          go_roundw
          case rel => exact ⟨q + 1, _, hlt, by go_num, hik (upE_fill (G := fun j => Tt i j 0) HV.out), hik (HR.out.set q (Tt i q 0)), hik (chg2_at HW.out wi.heap.size (fun l => absurd l (by omega)) _ _ _ _)⟩
          case measure => simp [intOf]; omega
        · obtain rfl : q = n := by omega
          have S9 := hik (rowIs_keep HS.out HW.out)
          have Z9 := hik (rowIs_keep HZ.out HW.out)
          have P9 := hik (HP.out.keep HW.out)
          have G9 := hik (HG.out.trans HW.out)
          have L9 := hik (show w.heap.size + 1 < wi.heap.size from HZ.out.lt)
          have R9 := hik (HR.out.congr HV.out)
          have V9 := hik (PairV.keep HPV.out HW.out)
          have M9 := hik (show ∀ x, B ≤ x ∧ x < wi.heap.size → B ≤ x from fun x e => e.1)
          have T9 := hik (HP.out.told (B0 := w.heap.size) (by have := hBw.out; omega) (by omega))
          clear HS HZ HP HG HR HV HW HPV
          have x0 : wj.cell? ⟨w.heap.size, 0, none⟩ = some (.slice ci len capi) := S9.out.cell (by omega)
          have x1 : wj.cell? ⟨w.heap.size, 1, none⟩ = some (.int .i64 (Qa i)) := S9.out.cell (by omega)
          have x2 : wj.cell? ⟨w.heap.size, 2, none⟩ = some (.string (Qs i)) := S9.out.cell (by omega)
          have x3 : wj.cell? ⟨w.heap.size, 3, none⟩ = some (.int .i64 (Qc i)) := S9.out.cell (by omega)
          go_wp2_with fail
          refine (copiedF_any ci len capi fs gs (Qa i) (Qs i) (Qc i) _ V9 (by omega)).mono ?_
          rintro e W8 ⟨cS, capS, rfl, hOS, k8, hfS⟩
          have OS := hik hOS
          have FrS := hik hfS
          have Z8 := hik (rowIs_keep Z9.out k8)
          have P8 := hik (P9.out.keep k8)
          have G8 := hik (G9.out.trans k8)
          have R8 := hik (R9.out.keep k8)
          have L8 := hik (show wi.heap.size < wj.heap.size from R9.out.lt)
          clear x0 x1 x2 x3 hOS hfS k8 Z9 P9 G9 R9 S9 V9
          have zz : w.heap.size + 1 < W8.heap.size := Z8.out.lt
          have y0 : W8.cell? ⟨w.heap.size + 1, 0, none⟩ = some (.slice none 0 0) := Z8.out.cell (by omega)
          have yf0 := Z8.out.frozen 0
          have y1 : W8.cell? ⟨w.heap.size + 1, 1, none⟩ = some (.int .i64 0) := Z8.out.cell (by omega)
          have yf1 := Z8.out.frozen 1
          have y2 : W8.cell? ⟨w.heap.size + 1, 2, none⟩ = some (.string ⟨#[]⟩) := Z8.out.cell (by omega)
          have yf2 := Z8.out.frozen 2
          have y3 : W8.cell? ⟨w.heap.size + 1, 3, none⟩ = some (.int .i64 0) := Z8.out.cell (by omega)
          have yf3 := Z8.out.frozen 3
          go_wp2
          have qc := chg4_set (Chg.refl (fun x => x = w.heap.size + 1) W8) (w.heap.size + 1) (fun _ => rfl) (.slice cS len capS) (.int .i64 (Qa i)) (.string (Qs i)) (.int .i64 (Qc i))
          have GE := hik (chg4_set G8.out (w.heap.size + 1) (fun l => absurd l (by omega)) (.slice cS len capS) (.int .i64 (Qa i)) (.string (Qs i)) (.int .i64 (Qc i)))
          have PE := hik (P8.out.chg qc (fun b hb (e : b = w.heap.size + 1) => by have := hBw.out; omega))
          have RE := hik (R8.out.chg qc (by have := L9.out; omega))
          have OE := hik ((OS.out.chg qc (fun b hb _ (e : b = w.heap.size + 1) => by have := L9.out; have := L8.out; omega)).low (B' := w.heap.size) (by have := L9.out; have := L8.out; omega))
          obtain ⟨cR, capR, cP, capP, eR, eP, oR, oP, ap, lR, lP⟩ := PE.out.told (B0 := w.heap.size) (by have := hBw.out; omega) (by omega)
          obtain ⟨cR2, capR2, cP2, capP2, eR2, eP2, _, _, _, lR2, lP2⟩ := T9.out
          rw [eR] at eR2
          rw [eP] at eP2
          cases eR2
          cases eP2
          subst eR
          subst eP
          exact bodyPost_ret (v := .tuple #[.slice cR i capR, .slice cP i capP, .slice (some ⟨wi.heap.size, 0, none⟩) q q, .agg #[.slice cS len capS, .int .i64 (Qa i), .string (Qs i), .int .i64 (Qc i)], .int .i64 0]) (by simp [results, Tryz.results10, go_sem, row4_s0 Z8.out (.slice cS len capS), row4_s1 Z8.out (.slice cS len capS) (.int .i64 (Qa i)), row4_s2 Z8.out (.slice cS len capS) (.int .i64 (Qa i)) (.string (Qs i)), row4_s3 Z8.out (.slice cS len capS) (.int .i64 (Qa i)) (.string (Qs i)) (.int .i64 (Qc i))]) rfl ⟨⟨cR, capR, H, _, cP, capP, _, _, cS, capS, rfl, oR, oP, RE.out.own (by have := L9.out; omega), OE.out, ⟨fun b hb => ⟨ap b hb, fun ⟨o, e⟩ => (by cases e; have := (lR2 _ hb).2; omega), fun ⟨o, e⟩ => (by have := FrS.out b o e; have := (lR2 _ hb).2; have := L8.out; omega)⟩, fun b hb => ⟨fun ⟨o, e⟩ => (by cases e; have := (lP2 _ hb).2; omega), fun ⟨o, e⟩ => (by have := FrS.out b o e; have := (lP2 _ hb).2; have := L8.out; omega)⟩, fun b ⟨o, e⟩ ⟨o2, e2⟩ => (by cases e; have := FrS.out _ _ e2; have := L8.out; omega)⟩, GE.out⟩, owns_cap PE.out.oR, rdIn.of PE.out.oR⟩

end Go.Proofs.YtgiefpipflcbgadGreatDoor
