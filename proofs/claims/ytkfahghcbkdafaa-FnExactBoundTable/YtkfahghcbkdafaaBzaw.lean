/- Several texts in one: What the model's bound table answers: a contract. Conditions: a right system, right elements, as many as its rows. · What the program's bound table answers: a contract. Conditions: a right system, right elements, as many as its rows. -/
import Derived.Test.YtkfahghcbkdafaaBzal
import Derived.Test.YtkfahghcbkdafaaBzat
import Derived.Test.YtkfahghcbkdafaaBzav
import Derived.Test.YtkfahghcbkdafaaBzap
import Derived.Test.YtkfahghcbkdafaaBzay
import Derived.Deep.DeepCutAuto
namespace Go.Proofs.Ytkfahghcbkdafaa
open Go.ChangeShapes Go.WideShapes Go.ChangeAt Go.RowKit
set_option linter.unusedVariables false
set_option maxRecDepth 100000
set_option linter.unusedSimpArgs false

/-- Three lists that lie in a block. -/
def Ls3 (W : World) (g : Nat) (s : Sy) (a : SyA) : Prop := g < W.heap.size ∧ ∀ i, i < 3 → W.cell? ⟨g, i, none⟩ = some (.slice (pk3 a.cA a.cB a.cC i) (pk3 s.nA s.nB s.nC i) (pk3 a.pA a.pB a.pC i))
theorem Ls3.chg {P : Nat → Prop} {W W' : World} {g : Nat} {s : Sy} {a : SyA} (h : Ls3 W g s a) (k : Chg P W W') (hp : ¬ P g) : Ls3 W' g s a :=
  ⟨Nat.lt_of_lt_of_le h.1 k.size, fun i hi => by rw [k.cell (p := ⟨g, i, none⟩) h.1 hp]; exact h.2 i hi⟩
theorem Ls3.keep {W W' : World} {g : Nat} {s : Sy} {a : SyA} (h : Ls3 W g s a) (k : Chg nob W W') : Ls3 W' g s a := h.chg k (fun x => x)
theorem Ls3.other {W : World} {g b : Nat} {s : Sy} {a : SyA} (h : Ls3 W g s a) (hne : g ≠ b) (o o' : Nat) (u v : Value) : Ls3 ((W.setCell ⟨b, o, none⟩ u).setCell ⟨b, o', none⟩ v) g s a :=
  ⟨by simpa using h.1, fun i hi => look_two hne (h.2 i hi) o o' u v⟩
theorem Ls3.new (W : World) (s : Sy) (a : SyA) (t : TypeId) : Ls3 (W.alloc (.cells #[.slice a.cA s.nA a.pA, .slice a.cB s.nB a.pB, .slice a.cC s.nC a.pC] t)) W.heap.size s a :=
  ⟨by simp, fun i hi => by rcases (show i = 0 ∨ i = 1 ∨ i = 2 by omega) with rfl | rfl | rfl <;> simp [pk3]⟩
theorem SyV.at_ {W : World} {s : Sy} {a : SyA} (h : SyV W s a) (k : Nat) : EntV W (pk3 a.cA a.cB a.cC k) (pk3 s.nA s.nB s.nC k) (pk3 s.XA s.XB s.XC k) := by
  unfold pk3
  split
  · exact h.A
  · exact h.B
  · exact h.C

set_option maxHeartbeats 4000000 in
theorem sBound_el (s : Sy) (a : SyA) (v0 v2 : Value) (M : Nat) (cx : Option Addr) (rx capx : Nat) (p : Nat → El) (cr : Option Addr) (capr : Nat) (r : Nat → El) (w : World) (hv : Hid (SyV w s a)) (hp : Hid (PairE w cx rx p)) (hr : Hid (PairE w cr 3 r)) (hs : Hid (sysb s = true)) (hM : Hid (s.q.toNat = M)) (hR : Hid (s.r.toNat = rx)) (hM5 : M ≤ 5) (hrx : rx ≤ 5) :
    Calls Try.prog 19 #[.agg #[v0, .int .i64 (M : Int), v2, .slice a.cA s.nA a.pA, .slice a.cB s.nB a.pB, .slice a.cC s.nC a.pC], .slice cx rx capx, .slice cr 3 capr] w fun e w' => TbAns w (2 ^ M) (btK s (El.eqp p rx) r 3) e w' := by
  obtain ⟨i0, hi, hz0, hz1, hz2⟩ := info_parts infoExt
  have HI := hik hi
  have HZ0 := hik hz0
  have HZ1 := hik hz1
  obtain ⟨N, hN⟩ : ∃ N, N = 2 ^ M := ⟨_, rfl⟩
  have hN32 : N ≤ 32 := by rw [hN]; exact pow5 hM5
  have hb16 : i0.bytes * N ≤ 281474976710656 := by rw [hz2]; omega
  have hwN : wrap64 (2 ^ M) = (N : Int) := by rw [wp2 M (by omega), hN]; exact (pow_cast M).symm
  obtain ⟨E, hE⟩ : ∃ E, E = El.eqp p rx := ⟨_, rfl⟩
  rw [← hE, ← hN]
  have HE0 := hik hE
  have HN := hik hN
  clear hE hN hi hz0 hz1 hz2
  have K0 := hik ((Chg.refl nob w).alloc (.cells #[v0, .int .i64 (M : Int), v2, .slice a.cA s.nA a.pA, .slice a.cB s.nB a.pB, .slice a.cC s.nC a.pC] 35))
  have x1 : World.cell? (w.alloc (.cells #[v0, .int .i64 (M : Int), v2, .slice a.cA s.nA a.pA, .slice a.cB s.nB a.pB, .slice a.cC s.nC a.pC] 35)) ⟨w.heap.size, 1, none⟩ = some (.int .i64 (M : Int)) := by go_simp
  have x3 : World.cell? (w.alloc (.cells #[v0, .int .i64 (M : Int), v2, .slice a.cA s.nA a.pA, .slice a.cB s.nB a.pB, .slice a.cC s.nC a.pC] 35)) ⟨w.heap.size, 3, none⟩ = some (.slice a.cA s.nA a.pA) := by go_simp
  have x4 : World.cell? (w.alloc (.cells #[v0, .int .i64 (M : Int), v2, .slice a.cA s.nA a.pA, .slice a.cB s.nB a.pB, .slice a.cC s.nC a.pC] 35)) ⟨w.heap.size, 4, none⟩ = some (.slice a.cB s.nB a.pB) := by go_simp
  have x5 : World.cell? (w.alloc (.cells #[v0, .int .i64 (M : Int), v2, .slice a.cA s.nA a.pA, .slice a.cB s.nB a.pB, .slice a.cC s.nC a.pC] 35)) ⟨w.heap.size, 5, none⟩ = some (.slice a.cC s.nC a.pC) := by go_simp
  go_enter Try.func19, Try.ntmps19
  go_upto_region 1 with fail
  generalize w.alloc (.cells #[v0, .int .i64 (M : Int), v2, .slice a.cA s.nA a.pA, .slice a.cB s.nB a.pB, .slice a.cC s.nC a.pC] 35) = B at K0 x1 x3 x4 x5 ⊢
  go_wp2_with (at_make; refine wpList_make_pairs _ rfl (.tmp 16) (.tmp 16) 30 rfl 38 i0 Try.underlying30 HI.out HZ0.out HZ1.out .i64 .i64 _ _ N rfl rfl (by exact hwN) (by exact hwN) hb16 (by omega) ?_)
  intro W1 hr1 hk1
  have O1 := hik (show RowE W1 B.heap.size N (fun _ => El.zr) from World.rowIs.congr hr1 (fun i _ => by unfold pf cA cB; split <;> rfl))
  have G1 := hik (K0.out.trans hk1)
  have y3 := hk1.look x3
  have y4 := hk1.look x4
  have y5 := hk1.look x5
  have hlo := K0.out.size
  generalize B.heap.size = gO at O1 hlo ⊢
  clear hr1 hk1 hb16 HI HZ0 HZ1 hwN x1 x3 x4 x5 K0
  go_wp2_with fail
  refine (sEq_any cx rx capx p _ (hik (PairE.keep hp.out G1.out)) (by omega)).mono ?_
  rintro e W2 ⟨ye, rfl, hb2, r2, k2⟩
  have A2 := hik (show RowE W2 ye (2 ^ rx) E by rw [HE0.out]; exact r2)
  have O2 := hik (O1.out.keep k2)
  have G2 := hik (G1.out.trans k2)
  have z3 := k2.look y3
  have z4 := k2.look y4
  have z5 := k2.look y5
  have hgy : gO < ye := Nat.lt_of_lt_of_le O1.out.lt hb2
  have hy2 : ye < W2.heap.size := A2.out.lt
  clear k2 r2 O1 G1 y3 y4 y5 hb2
  have K3 := hik ((Chg.refl nob W2).alloc (.cells #[.slice a.cA s.nA a.pA, .slice a.cB s.nB a.pB, .slice a.cC s.nC a.pC] 33))
  have L3 := hik (Ls3.new W2 s a 33)
  have A3 := hik (A2.out.keep K3.out)
  have O3 := hik (O2.out.keep K3.out)
  have G3 := hik (G2.out.trans K3.out)
  clear A2 O2 G2
  go_wp2
  clear z3 z4 z5
  generalize W2.alloc (.cells #[.slice a.cA s.nA a.pA, .slice a.cB s.nB a.pB, .slice a.cC s.nC a.pC] 33) = W3 at L3 A3 O3 G3 K3 ⊢
  generalize hg3 : W2.heap.size = g3 at L3 hy2 ⊢
  clear K3 hg3
  go_loopw [10] (fun i W => ∃ k : Nat, k ≤ 3 ∧ i = .int .i64 k ∧ Hid (RowE W gO N (btK s E r k)) ∧ Hid (RowE W ye (2 ^ rx) E) ∧ Hid (Ls3 W g3 s a) ∧ Hid (Chg nob w W)) (fun i _ => 3 - (intOf i).toNat)
  case atStart => exact ⟨0, by omega, rfl, O3, A3, L3, G3⟩
  case round =>
    clear O3 A3 L3 G3
    obtain ⟨k, hk, rfl, HO, HA, HL, HG⟩ := hrel
    rename World => wo
    by_cases hlt : k < 3
    · have hkn : ((k : Nat) : Int) < 3 := by omega
      have xl := HL.out.2 k hlt
      have HENT := hik (hv.out.at_ k)
      have HWIN := hik (fun (i : Nat) (hi : i < pk3 s.nA s.nB s.nC k) => win_col hs.out (k := k) hi)
      have hn2 : pk3 s.nA s.nB s.nC k ≤ 200 := by have := (sysb_ent hs.out).1; exact pk3_le this.1 this.2.1 this.2.2 k
      have HNX := hik (show btK s E r (k + 1) = btE E (r k) (pk3 s.XA s.XB s.XC k) (btK s E r k) (pk3 s.nA s.nB s.nC k) from rfl)
      obtain ⟨rb, ro, rfl, hrb, hr0, hr1⟩ := (PairE.keep hr.out HG.out).at_ hlt
      have HRB := hik (show ∀ W, Chg nob w W → W.cell? ⟨rb, ro + k * 2, none⟩ = some (.int .i64 (r k).v.1) ∧ W.cell? ⟨rb, ro + k * 2 + 1, none⟩ = some (.int .i64 (r k).v.2) from fun W kW => ⟨(PairE.keep hr.out kW).c0 hlt, (PairE.keep hr.out kW).c1 hlt⟩)
      have HLS := hik (show ∀ W, Ls3 W g3 s a → W.cell? ⟨g3, k, none⟩ = some (.slice (pk3 a.cA a.cB a.cC k) (pk3 s.nA s.nB s.nC k) (pk3 a.pA a.pB a.pC k)) from fun W h => h.2 k hlt)
      clear hr0 hr1 hrb
      generalize pk3 a.cA a.cB a.cC k = cK at xl HENT HLS
      generalize pk3 s.nA s.nB s.nC k = nK at xl HENT HWIN HNX hn2 HLS
      generalize pk3 a.pA a.pB a.pC k = pK at xl HLS
      generalize pk3 s.XA s.XB s.XC k = X at HENT HWIN HNX
      generalize hRK : r k = RK at HNX HRB
      generalize hBK : btK s E r k = TK at HNX HO
      clear hRK hBK
      go_wp2
      clear xl
      go_loopw [11] (fun i W => ∃ j : Nat, j ≤ nK ∧ i = .int .i64 j ∧ Hid (RowE W gO N (btE E RK X TK j)) ∧ Hid (RowE W ye (2 ^ rx) E) ∧ Hid (Ls3 W g3 s a) ∧ Hid (Chg nob w W)) (fun i _ => nK - (intOf i).toNat)
      case atStart => exact ⟨0, Nat.zero_le _, rfl, HO, HA, HL, HG⟩
      case round =>
        clear HO HA HL HG
        obtain ⟨j, hj, rfl, HO, HA, HL, HG⟩ := hrel
        rename World => wi
        have xl := HLS.out _ HL.out
        have hl3 : g3 < wi.heap.size := HL.out.1
        by_cases hlj : j < nK
        · have hjn : ((j : Nat) : Int) < nK := by omega
          obtain ⟨xb, xo, rfl, hxb, c0, c1, c2⟩ := (HENT.out.keep HG.out) j hlj
          obtain ⟨ri, ci, er, ec, hri, hci, u0, u1⟩ := HWIN.out j hlj
          rw [hR.out] at hri
          rw [hM.out, ← HN.out] at hci
          rw [er] at c0
          rw [ec] at c1
          rw [← El.ofi_v (by omega) u1] at c2
          have HST := hik (show ∀ z, btE E RK X TK (j + 1) z = upE (btE E RK X TK j) ci (El.ad (btE E RK X TK j ci) (El.ml RK (El.ml (El.ofi (X j).2.2) (E ri)))) z from fun z => by
            show (if z = (X j).2.1.toNat then El.ad (btE E RK X TK j z) (El.ml RK (El.ml (El.ofi (X j).2.2) (E (X j).1.toNat))) else btE E RK X TK j z) = _
            rw [er, ec, Int.toNat_natCast, Int.toNat_natCast]
            unfold upE
            by_cases q : z = ci
            · rw [if_pos q, if_pos q, q]
            · rw [if_neg q, if_neg q])
          have hV2 := El.ofi_w (X j).2.2
          clear er ec u0 u1
          generalize El.ofi (X j).2.2 = V at c2 HST hV2
          generalize hTT : btE E RK X TK j = TT at HO HST
          clear hTT
          have KB := hik ((Chg.refl nob wi).alloc (.cells #[.int .i64 (ri : Int), .int .i64 (ci : Int), .int .i64 V.v.1] 62))
          have p0 := KB.out.see (HA.out.c0 hri)
          have p1 := KB.out.see (HA.out.c1 hri)
          have q0 := (HRB.out _ (HG.out.trans KB.out)).1
          have q1 := (HRB.out _ (HG.out.trans KB.out)).2
          have s0 := KB.out.see (HO.out.c0 hci)
          have s1 := KB.out.see (HO.out.c1 hci)
          have e0 : World.cell? (wi.alloc (.cells #[.int .i64 (ri : Int), .int .i64 (ci : Int), .int .i64 V.v.1] 62)) ⟨wi.heap.size, 0, none⟩ = some (.int .i64 (ri : Int)) := by go_simp
          have e1 : World.cell? (wi.alloc (.cells #[.int .i64 (ri : Int), .int .i64 (ci : Int), .int .i64 V.v.1] 62)) ⟨wi.heap.size, 1, none⟩ = some (.int .i64 (ci : Int)) := by go_simp
          have e2 : World.cell? (wi.alloc (.cells #[.int .i64 (ri : Int), .int .i64 (ci : Int), .int .i64 V.v.1] 62)) ⟨wi.heap.size, 2, none⟩ = some (.int .i64 V.v.1) := by go_simp
          replace HO := hik (HO.out.keep KB.out)
          replace HA := hik (HA.out.keep KB.out)
          replace HL := hik (HL.out.keep KB.out)
          replace HG := hik (HG.out.trans KB.out)
          have hciN : ((ci : Nat) : Int) < N := by omega
          have hriN : ((ri : Nat) : Int) < 2 ^ rx := by have := pow_cast rx; omega
          go_upto_region 11 with fail
          clear c0 c1 c2 xl
          generalize wi.alloc (.cells #[.int .i64 (ri : Int), .int .i64 (ci : Int), .int .i64 V.v.1] 62) = W0 at p0 p1 q0 q1 s0 s1 e0 e1 e2 HO HA HL HG KB ⊢
          have KW := hik ((Chg.refl nob W0).drew1)
          have SA := hik (fun (WW : World) (kW : Chg nob W0 WW) => (show (WW.cell? ⟨wi.heap.size, 0, none⟩ = some (.int .i64 (ri : Int)) ∧ WW.cell? ⟨wi.heap.size, 1, none⟩ = some (.int .i64 (ci : Int)) ∧ WW.cell? ⟨wi.heap.size, 2, none⟩ = some (.int .i64 V.v.1) ∧ WW.cell? ⟨ye, ri * 2, none⟩ = some (.int .i64 (E ri).v.1) ∧ WW.cell? ⟨ye, ri * 2 + 1, none⟩ = some (.int .i64 (E ri).v.2) ∧ WW.cell? ⟨rb, ro + k * 2, none⟩ = some (.int .i64 RK.v.1) ∧ WW.cell? ⟨rb, ro + k * 2 + 1, none⟩ = some (.int .i64 RK.v.2) ∧ WW.cell? ⟨gO, ci * 2, none⟩ = some (.int .i64 (TT ci).v.1) ∧ WW.cell? ⟨gO, ci * 2 + 1, none⟩ = some (.int .i64 (TT ci).v.2)) from ⟨kW.see e0, kW.see e1, kW.see e2, kW.see p0, kW.see p1, kW.see q0, kW.see q1, kW.see s0, kW.see s1⟩))
          refine wp_regionL (L := 24) (S := fun w' => w'.cell? ⟨wi.heap.size, 0, none⟩ = some (.int .i64 (ri : Int)) ∧ w'.cell? ⟨wi.heap.size, 1, none⟩ = some (.int .i64 (ci : Int)) ∧ w'.cell? ⟨wi.heap.size, 2, none⟩ = some (.int .i64 V.v.1) ∧ w'.cell? ⟨ye, ri * 2, none⟩ = some (.int .i64 (E ri).v.1) ∧ w'.cell? ⟨ye, ri * 2 + 1, none⟩ = some (.int .i64 (E ri).v.2) ∧ w'.cell? ⟨rb, ro + k * 2, none⟩ = some (.int .i64 RK.v.1) ∧ w'.cell? ⟨rb, ro + k * 2 + 1, none⟩ = some (.int .i64 RK.v.2) ∧ w'.cell? ⟨gO, ci * 2, none⟩ = some (.int .i64 (TT ci).v.1) ∧ w'.cell? ⟨gO, ci * 2 + 1, none⟩ = some (.int .i64 (TT ci).v.2)) (by kernel_rfl) ⟨e0, e1, e2, p0, p1, q0, q1, s0, s1⟩ (fun hHeld => ?_)
          refine wpAnyL_take (i := 0) (v := ?_) rfl (by kernel_rfl) (by kernel_rfl) (by kernel_rfl) (fun _ _ _ h => h) (by rfl) (by kernel_rfl) (by kernel_rfl) (Or.inl ⟨by rfl, ?_⟩) (by assumption) ?_
          rotate_left 1
          · (intro w' hSw; (try dsimp only at hSw); go_simp; try with_reducible rfl)
          try simp only [Act.put, List.setIfInBounds_toArray, List.set_cons_zero, List.set_cons_succ, List.getElem_toArray, List.getElem_cons_zero, List.getElem_cons_succ]
          refine wpAnyL_take (i := 1) (v := ?_) rfl (by kernel_rfl) (by kernel_rfl) (by kernel_rfl) (fun _ _ _ h => h) (by rfl) (by kernel_rfl) (by kernel_rfl) (Or.inl ⟨by rfl, ?_⟩) (by assumption) ?_
          rotate_left 1
          · (intro w' hSw; (try dsimp only at hSw); go_simp; try with_reducible rfl)
          try simp only [Act.put, List.setIfInBounds_toArray, List.set_cons_zero, List.set_cons_succ, List.getElem_toArray, List.getElem_cons_zero, List.getElem_cons_succ]
          refine wpAnyL_take (i := 2) (v := ?_) rfl (by kernel_rfl) (by kernel_rfl) (by kernel_rfl) (fun _ _ _ h => h) (by rfl) (by kernel_rfl) (by kernel_rfl) (Or.inl ⟨by rfl, ?_⟩) (by assumption) ?_
          rotate_left 1
          · (intro w' hSw; (try dsimp only at hSw); go_simp; try with_reducible rfl)
          try simp only [Act.put, List.setIfInBounds_toArray, List.set_cons_zero, List.set_cons_succ, List.getElem_toArray, List.getElem_cons_zero, List.getElem_cons_succ]
          refine wpAnyL_take (i := 3) (v := ?_) rfl (by kernel_rfl) (by kernel_rfl) (by kernel_rfl) (fun _ _ _ h => h) (by rfl) (by kernel_rfl) (by kernel_rfl) (Or.inl ⟨by rfl, ?_⟩) (by assumption) ?_
          rotate_left 1
          · (intro w' hSw; (try dsimp only at hSw); go_simp; try with_reducible rfl)
          try simp only [Act.put, List.setIfInBounds_toArray, List.set_cons_zero, List.set_cons_succ, List.getElem_toArray, List.getElem_cons_zero, List.getElem_cons_succ]
          refine wpAnyL_take (i := 4) (v := ?_) rfl (by kernel_rfl) (by kernel_rfl) (by kernel_rfl) (fun _ _ _ h => h) (by rfl) (by kernel_rfl) (by kernel_rfl) (Or.inl ⟨by rfl, ?_⟩) (by assumption) ?_
          rotate_left 1
          · (intro w' hSw; (try dsimp only at hSw); go_simp; try with_reducible rfl)
          try simp only [Act.put, List.setIfInBounds_toArray, List.set_cons_zero, List.set_cons_succ, List.getElem_toArray, List.getElem_cons_zero, List.getElem_cons_succ]
          refine wpAnyL_take (i := 5) (v := ?_) rfl (by kernel_rfl) (by kernel_rfl) (by kernel_rfl) (fun _ _ _ h => h) (by rfl) (by kernel_rfl) (by kernel_rfl) (Or.inl ⟨by rfl, ?_⟩) (by assumption) ?_
          rotate_left 1
          · (intro w' hSw; (try dsimp only at hSw); go_simp; try with_reducible rfl)
          try simp only [Act.put, List.setIfInBounds_toArray, List.set_cons_zero, List.set_cons_succ, List.getElem_toArray, List.getElem_cons_zero, List.getElem_cons_succ]
          refine wpAnyL_take (i := 6) (v := ?_) rfl (by kernel_rfl) (by kernel_rfl) (by kernel_rfl) (fun _ _ _ h => h) (by rfl) (by kernel_rfl) (by kernel_rfl) (Or.inl ⟨by rfl, ?_⟩) (by assumption) ?_
          rotate_left 1
          · (intro w' hSw; (try dsimp only at hSw); go_simp; try with_reducible rfl)
          try simp only [Act.put, List.setIfInBounds_toArray, List.set_cons_zero, List.set_cons_succ, List.getElem_toArray, List.getElem_cons_zero, List.getElem_cons_succ]
          refine wpAnyL_take (i := 7) (v := ?_) rfl (by kernel_rfl) (by kernel_rfl) (by kernel_rfl) (fun _ _ _ h => h) (by rfl) (by kernel_rfl) (by kernel_rfl) (Or.inl ⟨by rfl, ?_⟩) (by assumption) ?_
          rotate_left 1
          · (intro w' hSw; (try dsimp only at hSw); go_simp; try with_reducible rfl)
          try simp only [Act.put, List.setIfInBounds_toArray, List.set_cons_zero, List.set_cons_succ, List.getElem_toArray, List.getElem_cons_zero, List.getElem_cons_succ]
          refine wpAnyL_take (i := 8) (v := ?_) rfl (by kernel_rfl) (by kernel_rfl) (by kernel_rfl) (fun _ _ _ h => h) (by rfl) (by kernel_rfl) (by kernel_rfl) (Or.inl ⟨by rfl, ?_⟩) (by assumption) ?_
          rotate_left 1
          · (intro w' hSw; (try dsimp only at hSw); go_simp; try with_reducible rfl)
          try simp only [Act.put, List.setIfInBounds_toArray, List.set_cons_zero, List.set_cons_succ, List.getElem_toArray, List.getElem_cons_zero, List.getElem_cons_succ]
          refine wpAnyL_take (i := 9) (v := ?_) rfl (by kernel_rfl) (by kernel_rfl) (by kernel_rfl) (fun _ _ _ h => h) (by rfl) (by kernel_rfl) (by kernel_rfl) (Or.inl ⟨by rfl, ?_⟩) (by assumption) ?_
          rotate_left 1
          · (intro w' hSw; (try dsimp only at hSw); go_simp; try with_reducible rfl)
          try simp only [Act.put, List.setIfInBounds_toArray, List.set_cons_zero, List.set_cons_succ, List.getElem_toArray, List.getElem_cons_zero, List.getElem_cons_succ]
          refine wpAnyL_take (i := 10) (v := ?_) rfl (by kernel_rfl) (by kernel_rfl) (by kernel_rfl) (fun _ _ _ h => h) (by rfl) (by kernel_rfl) (by kernel_rfl) (Or.inl ⟨by rfl, ?_⟩) (by assumption) ?_
          rotate_left 1
          · (intro w' hSw; (try dsimp only at hSw); go_simp; try with_reducible rfl)
          try simp only [Act.put, List.setIfInBounds_toArray, List.set_cons_zero, List.set_cons_succ, List.getElem_toArray, List.getElem_cons_zero, List.getElem_cons_succ]
          refine wpAnyL_take (i := 11) (v := ?_) rfl (by kernel_rfl) (by kernel_rfl) (by kernel_rfl) (fun _ _ _ h => h) (by rfl) (by kernel_rfl) (by kernel_rfl) (Or.inl ⟨by rfl, ?_⟩) (by assumption) ?_
          rotate_left 1
          · (intro w' hSw; (try dsimp only at hSw); go_simp; try with_reducible rfl)
          try simp only [Act.put, List.setIfInBounds_toArray, List.set_cons_zero, List.set_cons_succ, List.getElem_toArray, List.getElem_cons_zero, List.getElem_cons_succ]
          refine wpAnyL_take (i := 12) (v := ?_) rfl (by kernel_rfl) (by kernel_rfl) (by kernel_rfl) (fun _ _ _ h => h) (by rfl) (by kernel_rfl) (by kernel_rfl) (Or.inl ⟨by rfl, ?_⟩) (by assumption) ?_
          rotate_left 1
          · (intro w' hSw; (try dsimp only at hSw); go_simp; try with_reducible rfl)
          try simp only [Act.put, List.setIfInBounds_toArray, List.set_cons_zero, List.set_cons_succ, List.getElem_toArray, List.getElem_cons_zero, List.getElem_cons_succ]
          refine wpAnyL_take (i := 13) (v := ?_) rfl (by kernel_rfl) (by kernel_rfl) (by kernel_rfl) (fun _ _ _ h => h) (by rfl) (by kernel_rfl) (by kernel_rfl) (Or.inl ⟨by rfl, ?_⟩) (by assumption) ?_
          rotate_left 1
          · (intro w' hSw; (try dsimp only at hSw); go_simp; try with_reducible rfl)
          try simp only [Act.put, List.setIfInBounds_toArray, List.set_cons_zero, List.set_cons_succ, List.getElem_toArray, List.getElem_cons_zero, List.getElem_cons_succ]
          refine wpAnyL_take (i := 15) (v := ?_) rfl (by kernel_rfl) (by kernel_rfl) (by kernel_rfl) (fun _ _ _ h => h) (by rfl) (by kernel_rfl) (by kernel_rfl) (Or.inl ⟨by rfl, ?_⟩) (by assumption) ?_
          rotate_left 1
          · (intro w' hSw; (try dsimp only at hSw); go_simp; try with_reducible rfl)
          try simp only [Act.put, List.setIfInBounds_toArray, List.set_cons_zero, List.set_cons_succ, List.getElem_toArray, List.getElem_cons_zero, List.getElem_cons_succ]
          refine wpAnyL_take (i := 16) (v := ?_) rfl (by kernel_rfl) (by kernel_rfl) (by kernel_rfl) (fun _ _ _ h => h) (by rfl) (by kernel_rfl) (by kernel_rfl) (Or.inl ⟨by rfl, ?_⟩) (by assumption) ?_
          rotate_left 1
          · (intro w' hSw; (try dsimp only at hSw); go_simp; try with_reducible rfl)
          try simp only [Act.put, List.setIfInBounds_toArray, List.set_cons_zero, List.set_cons_succ, List.getElem_toArray, List.getElem_cons_zero, List.getElem_cons_succ]
          refine wpAnyL_take (i := 17) (v := ?_) rfl (by kernel_rfl) (by kernel_rfl) (by kernel_rfl) (fun _ _ _ h => h) (by rfl) (by kernel_rfl) (by kernel_rfl) (Or.inl ⟨by rfl, ?_⟩) (by assumption) ?_
          rotate_left 1
          · (intro w' hSw; (try dsimp only at hSw); go_simp; try with_reducible rfl)
          try simp only [Act.put, List.setIfInBounds_toArray, List.set_cons_zero, List.set_cons_succ, List.getElem_toArray, List.getElem_cons_zero, List.getElem_cons_succ]
          refine wpAnyL_take (i := 18) (v := ?_) rfl (by kernel_rfl) (by kernel_rfl) (by kernel_rfl) (fun _ _ _ h => h) (by rfl) (by kernel_rfl) (by kernel_rfl) (Or.inl ⟨by rfl, ?_⟩) (by assumption) ?_
          rotate_left 1
          · (intro w' hSw; (try dsimp only at hSw); go_simp; try with_reducible rfl)
          try simp only [Act.put, List.setIfInBounds_toArray, List.set_cons_zero, List.set_cons_succ, List.getElem_toArray, List.getElem_cons_zero, List.getElem_cons_succ]
          refine wpAnyL_take (i := 19) (v := ?_) rfl (by kernel_rfl) (by kernel_rfl) (by kernel_rfl) (fun _ _ _ h => h) (by rfl) (by kernel_rfl) (by kernel_rfl) (Or.inl ⟨by rfl, ?_⟩) (by assumption) ?_
          rotate_left 1
          · (intro w' hSw; (try dsimp only at hSw); go_simp; try with_reducible rfl)
          try simp only [Act.put, List.setIfInBounds_toArray, List.set_cons_zero, List.set_cons_succ, List.getElem_toArray, List.getElem_cons_zero, List.getElem_cons_succ]
          refine wpAnyL_ready (rs := [14]) (by kernel_rfl) (by simp) ?_
          refine AllReadyL.cons rfl (fun K hK => ?_) AllReadyL.nil
          refine stepL_callN 33 #[.tmp 60] #[3] (by rfl) (by rfl) #[.int .i64 V.v.1] (by simp only [List.map_toArray, List.map_cons, List.map_nil] <;> rfl) (run_go Try.func33 (by kernel_rfl) (by kernel_rfl) _ _) (sOfE V hV2 _) ?_
          rintro e U1 ⟨he, kk⟩
          refine ⟨_, he, ?_⟩
          replace KW := hik (KW.out.trans kk)
          refine hK.out _ _ (SA.out _ KW.out) (fun hHeld => ?_)
          clear hK K
          try simp only [Act.put, List.setIfInBounds_toArray, List.set_cons_zero, List.set_cons_succ, List.getElem_toArray, List.getElem_cons_zero, List.getElem_cons_succ]
          clear he kk
          refine wpAnyL_ready (rs := [20]) (by kernel_rfl) (by simp) ?_
          refine AllReadyL.cons rfl (fun K hK => ?_) AllReadyL.nil
          refine stepL_callN 32 #[.tmp 61, .tmp 66] #[38, 38] (by rfl) (by rfl) #[.agg #[.int .i64 V.v.1, .int .i64 V.v.2], .agg #[.int .i64 (E ri).v.1, .int .i64 (E ri).v.2]] (by simp only [List.map_toArray, List.map_cons, List.map_nil] <;> rfl) (run_go Try.func32 (by kernel_rfl) (by kernel_rfl) _ _) (sMl_el V (E ri) _) ?_
          rintro e U2 ⟨he, kk⟩
          refine ⟨_, he, ?_⟩
          replace KW := hik (KW.out.trans kk)
          refine hK.out _ _ (SA.out _ KW.out) (fun hHeld => ?_)
          clear hK K
          try simp only [Act.put, List.setIfInBounds_toArray, List.set_cons_zero, List.set_cons_succ, List.getElem_toArray, List.getElem_cons_zero, List.getElem_cons_succ]
          clear he kk
          refine wpAnyL_ready (rs := [21]) (by kernel_rfl) (by simp) ?_
          refine AllReadyL.cons rfl (fun K hK => ?_) AllReadyL.nil
          refine stepL_callN 32 #[.tmp 58, .tmp 67] #[38, 38] (by rfl) (by rfl) #[.agg #[.int .i64 RK.v.1, .int .i64 RK.v.2], .agg #[.int .i64 (El.ml V (E ri)).v.1, .int .i64 (El.ml V (E ri)).v.2]] (by simp only [List.map_toArray, List.map_cons, List.map_nil] <;> rfl) (run_go Try.func32 (by kernel_rfl) (by kernel_rfl) _ _) (sMl_el RK (El.ml V (E ri)) _) ?_
          rintro e U3 ⟨he, kk⟩
          refine ⟨_, he, ?_⟩
          replace KW := hik (KW.out.trans kk)
          refine hK.out _ _ (SA.out _ KW.out) (fun hHeld => ?_)
          clear hK K
          try simp only [Act.put, List.setIfInBounds_toArray, List.set_cons_zero, List.set_cons_succ, List.getElem_toArray, List.getElem_cons_zero, List.getElem_cons_succ]
          clear he kk
          refine wpAnyL_ready (rs := [22]) (by kernel_rfl) (by simp) ?_
          refine AllReadyL.cons rfl (fun K hK => ?_) AllReadyL.nil
          refine stepL_callN 31 #[.tmp 54, .tmp 68] #[38, 38] (by rfl) (by rfl) #[.agg #[.int .i64 (TT ci).v.1, .int .i64 (TT ci).v.2], .agg #[.int .i64 (El.ml RK (El.ml V (E ri))).v.1, .int .i64 (El.ml RK (El.ml V (E ri))).v.2]] (by simp only [List.map_toArray, List.map_cons, List.map_nil] <;> rfl) (run_go Try.func31 (by kernel_rfl) (by kernel_rfl) _ _) (sAd_el (TT ci) (El.ml RK (El.ml V (E ri))) _) ?_
          rintro e U4 ⟨he, kk⟩
          refine ⟨_, he, ?_⟩
          replace KW := hik (KW.out.trans kk)
          refine hK.out _ _ (SA.out _ KW.out) (fun hHeld => ?_)
          clear hK K
          try simp only [Act.put, List.setIfInBounds_toArray, List.set_cons_zero, List.set_cons_succ, List.getElem_toArray, List.getElem_cons_zero, List.getElem_cons_succ]
          clear he kk
          refine wpAnyL_take (i := 23) (v := ?_) rfl (by kernel_rfl) (by kernel_rfl) (by kernel_rfl) (fun _ _ _ h => h) (by rfl) (by kernel_rfl) (by kernel_rfl) (Or.inl ⟨by rfl, ?_⟩) (by assumption) ?_
          rotate_left 1
          · (intro w' hSw; (try dsimp only at hSw); go_simp; try with_reducible rfl)
          try simp only [Act.put, List.setIfInBounds_toArray, List.set_cons_zero, List.set_cons_succ, List.getElem_toArray, List.getElem_cons_zero, List.getElem_cons_succ]
          refine wpAnyL_ready (rs := [24]) (by kernel_rfl) (by simp) ?_
          refine AllReadyL.last rfl (by kernel_rfl) (fun K hK => ?_)
          have EN := hik (HO.out.keep KW.out)
          have g0 := EN.out.c0 hci
          have g1 := EN.out.c1 hci
          have f0 := World.rowIs.frozen EN.out (ci * 2)
          have f1 := World.rowIs.frozen EN.out (ci * 2 + 1)
          have ln : gO < U4.heap.size := EN.out.lt
          simp only [List.getElem_toArray, List.getElem_cons_zero, List.getElem_cons_succ]
          go_simp
          refine hK.out _ _ ?_
          clear hK K
          try simp only [Act.put, List.setIfInBounds_toArray, List.set_cons_zero, List.set_cons_succ, List.getElem_toArray, List.getElem_cons_zero, List.getElem_cons_succ]
          clear g0 g1 f0 f1 ln
          refine wpAnyL_done (by kernel_rfl) ?_ _
          have O2 : Hid (RowE _ gO N (btE E RK X TK (j + 1))) := hik ((EN.out.set ci (El.ad (TT ci) (El.ml RK (El.ml V (E ri))))).congr (fun z _ => (HST.out z).symm))
          have A2 := hik (RowE.other (HA.out.keep KW.out) (g := gO) (by omega) (ci * 2) (ci * 2 + 1) (.int .i64 (El.ad (TT ci) (El.ml RK (El.ml V (E ri)))).v.1) (.int .i64 (El.ad (TT ci) (El.ml RK (El.ml V (E ri)))).v.2))
          have L2 := hik (Ls3.other (HL.out.keep KW.out) (b := gO) (by omega) (ci * 2) (ci * 2 + 1) (.int .i64 (El.ad (TT ci) (El.ml RK (El.ml V (E ri)))).v.1) (.int .i64 (El.ad (TT ci) (El.ml RK (El.ml V (E ri)))).v.2))
          have G2 := hik (chg2_at (HG.out.trans KW.out) gO (fun l => absurd l (by omega)) (ci * 2) (ci * 2 + 1) (.int .i64 (El.ad (TT ci) (El.ml RK (El.ml V (E ri)))).v.1) (.int .i64 (El.ad (TT ci) (El.ml RK (El.ml V (E ri)))).v.2))
          generalize hE : ((U4.setCell ⟨gO, ci * 2, none⟩ (.int .i64 (El.ad (TT ci) (El.ml RK (El.ml V (E ri)))).v.1)).setCell ⟨gO, ci * 2 + 1, none⟩ (.int .i64 (El.ad (TT ci) (El.ml RK (El.ml V (E ri)))).v.2)) = W5 at O2 A2 L2 G2 ⊢
          clear hE EN KW SA hHeld p0 p1 q0 q1 e0 e1 e2 s0 s1 HO HA HL HG
          go_wp2
          go_roundw
          case rel => exact ⟨j + 1, by omega, by go_num, O2, A2, L2, G2⟩
          case measure => simp [intOf]; omega
        · obtain rfl : nK = j := by omega
          go_wp2
          go_roundw
          case rel => exact ⟨k + 1, by omega, by go_num, hik (by rw [HNX.out]; exact HO.out), HA, HL, HG⟩
          case measure => simp [intOf]; omega
    · obtain rfl : k = 3 := by omega
      go_wp2
      go_ret
      exact ⟨gO, rfl, hlo, HO.out, HG.out⟩

end Go.Proofs.Ytkfahghcbkdafaa

namespace Go.Proofs.Ytkfahghcbkdafaa
open Go.ChangeShapes Go.WideShapes Go.ChangeAt Go.RowKit
set_option linter.unusedVariables false
set_option maxRecDepth 100000
set_option linter.unusedSimpArgs false

/-- Three elements that lie in a block. -/
def Wt3 (W : World) (g : Nat) (r : Nat → El) : Prop := g < W.heap.size ∧ ∀ i, i < 3 → W.cell? ⟨g, i * 2, none⟩ = some (.int .i64 (r i).v.1) ∧ W.cell? ⟨g, i * 2 + 1, none⟩ = some (.int .i64 (r i).v.2)
theorem Wt3.chg {P : Nat → Prop} {W W' : World} {g : Nat} {r : Nat → El} (h : Wt3 W g r) (k : Chg P W W') (hp : ¬ P g) : Wt3 W' g r :=
  ⟨Nat.lt_of_lt_of_le h.1 k.size, fun i hi => by rw [k.cell (p := ⟨g, i * 2, none⟩) h.1 hp, k.cell (p := ⟨g, i * 2 + 1, none⟩) h.1 hp]; exact h.2 i hi⟩
theorem Wt3.keep {W W' : World} {g : Nat} {r : Nat → El} (h : Wt3 W g r) (k : Chg nob W W') : Wt3 W' g r := h.chg k (fun x => x)
theorem Wt3.other {W : World} {g b : Nat} {r : Nat → El} (h : Wt3 W g r) (hne : g ≠ b) (o o' : Nat) (u v : Value) : Wt3 ((W.setCell ⟨b, o, none⟩ u).setCell ⟨b, o', none⟩ v) g r :=
  ⟨by simpa using h.1, fun i hi => ⟨look_two hne (h.2 i hi).1 o o' u v, look_two hne (h.2 i hi).2 o o' u v⟩⟩
theorem Wt3.new (W : World) (r : Nat → El) (t : TypeId) : Wt3 (W.alloc (.cells #[.int .i64 (r 0).v.1, .int .i64 (r 0).v.2, .int .i64 (r 1).v.1, .int .i64 (r 1).v.2, .int .i64 (r 2).v.1, .int .i64 (r 2).v.2] t)) W.heap.size r :=
  ⟨by simp, fun i hi => by rcases (show i = 0 ∨ i = 1 ∨ i = 2 by omega) with rfl | rfl | rfl <;> simp⟩

set_option maxHeartbeats 8000000 in
theorem boundT_any (s : Sy) (a : SyA) (v0 v2 : Value) (M : Nat) (cx : Option Addr) (rx capx : Nat) (p : Nat → El) (r : Nat → El) (w : World) (hv : Hid (SyV w s a)) (hp : Hid (PairE w cx rx p)) (hs : Hid (sysb s = true)) (hM : Hid (s.q.toNat = M)) (hR : Hid (s.r.toNat = rx)) (hM5 : M ≤ 5) (hrx : rx ≤ 5) :
    Calls Try.prog 23 #[.agg #[v0, .int .i64 (M : Int), v2, .slice a.cA s.nA a.pA, .slice a.cB s.nB a.pB, .slice a.cC s.nC a.pC], .slice cx rx capx, .agg #[.int .i64 (r 0).v.1, .int .i64 (r 0).v.2, .int .i64 (r 1).v.1, .int .i64 (r 1).v.2, .int .i64 (r 2).v.1, .int .i64 (r 2).v.2]] w fun e w' => TbAns w (2 ^ M) (btK s (El.eqp p rx) r 3) e w' := by
  obtain ⟨i0, hi, hz0, hz1, hz2⟩ := info_parts infoExt
  have HI := hik hi
  have HZ0 := hik hz0
  have HZ1 := hik hz1
  obtain ⟨N, hN⟩ : ∃ N, N = 2 ^ M := ⟨_, rfl⟩
  have hN32 : N ≤ 32 := by rw [hN]; exact pow5 hM5
  have hb16 : i0.bytes * N ≤ 281474976710656 := by rw [hz2]; omega
  have hwN : (2 : Int) ^ M = (N : Int) := by rw [hN]; exact (pow_cast M).symm
  rw [← hN]
  have HN := hik hN
  have HBT := hik (show ∀ A : Nat → El, (∀ i, i < 2 ^ rx → A i = El.eqp p rx i) → ∀ k j, btK s A r k j = btK s (El.eqp p rx) r k j from fun A hA k j => btK_congr (fun k i hi => by
    obtain ⟨ri, ci, er, ec, hri, hci, u0, u1⟩ := win_col hs.out hi
    rw [er, Int.toNat_natCast]
    exact hA ri (by rw [hR.out] at hri; exact hri)) k j)
  clear hN hi hz0 hz1 hz2
  have K0 := hik (((Chg.refl nob w).alloc (.cells #[v0, .int .i64 (M : Int), v2, .slice a.cA s.nA a.pA, .slice a.cB s.nB a.pB, .slice a.cC s.nC a.pC] 35)).alloc (.cells #[.int .i64 (r 0).v.1, .int .i64 (r 0).v.2, .int .i64 (r 1).v.1, .int .i64 (r 1).v.2, .int .i64 (r 2).v.1, .int .i64 (r 2).v.2] 50))
  have x0 : World.cell? ((w.alloc (.cells #[v0, .int .i64 (M : Int), v2, .slice a.cA s.nA a.pA, .slice a.cB s.nB a.pB, .slice a.cC s.nC a.pC] 35)).alloc (.cells #[.int .i64 (r 0).v.1, .int .i64 (r 0).v.2, .int .i64 (r 1).v.1, .int .i64 (r 1).v.2, .int .i64 (r 2).v.1, .int .i64 (r 2).v.2] 50)) ⟨w.heap.size, 0, none⟩ = some v0 := by go_simp
  have x1 : World.cell? ((w.alloc (.cells #[v0, .int .i64 (M : Int), v2, .slice a.cA s.nA a.pA, .slice a.cB s.nB a.pB, .slice a.cC s.nC a.pC] 35)).alloc (.cells #[.int .i64 (r 0).v.1, .int .i64 (r 0).v.2, .int .i64 (r 1).v.1, .int .i64 (r 1).v.2, .int .i64 (r 2).v.1, .int .i64 (r 2).v.2] 50)) ⟨w.heap.size, 1, none⟩ = some (.int .i64 (M : Int)) := by go_simp
  have x2 : World.cell? ((w.alloc (.cells #[v0, .int .i64 (M : Int), v2, .slice a.cA s.nA a.pA, .slice a.cB s.nB a.pB, .slice a.cC s.nC a.pC] 35)).alloc (.cells #[.int .i64 (r 0).v.1, .int .i64 (r 0).v.2, .int .i64 (r 1).v.1, .int .i64 (r 1).v.2, .int .i64 (r 2).v.1, .int .i64 (r 2).v.2] 50)) ⟨w.heap.size, 2, none⟩ = some v2 := by go_simp
  have x3 : World.cell? ((w.alloc (.cells #[v0, .int .i64 (M : Int), v2, .slice a.cA s.nA a.pA, .slice a.cB s.nB a.pB, .slice a.cC s.nC a.pC] 35)).alloc (.cells #[.int .i64 (r 0).v.1, .int .i64 (r 0).v.2, .int .i64 (r 1).v.1, .int .i64 (r 1).v.2, .int .i64 (r 2).v.1, .int .i64 (r 2).v.2] 50)) ⟨w.heap.size, 3, none⟩ = some (.slice a.cA s.nA a.pA) := by go_simp
  have x4 : World.cell? ((w.alloc (.cells #[v0, .int .i64 (M : Int), v2, .slice a.cA s.nA a.pA, .slice a.cB s.nB a.pB, .slice a.cC s.nC a.pC] 35)).alloc (.cells #[.int .i64 (r 0).v.1, .int .i64 (r 0).v.2, .int .i64 (r 1).v.1, .int .i64 (r 1).v.2, .int .i64 (r 2).v.1, .int .i64 (r 2).v.2] 50)) ⟨w.heap.size, 4, none⟩ = some (.slice a.cB s.nB a.pB) := by go_simp
  have x5 : World.cell? ((w.alloc (.cells #[v0, .int .i64 (M : Int), v2, .slice a.cA s.nA a.pA, .slice a.cB s.nB a.pB, .slice a.cC s.nC a.pC] 35)).alloc (.cells #[.int .i64 (r 0).v.1, .int .i64 (r 0).v.2, .int .i64 (r 1).v.1, .int .i64 (r 1).v.2, .int .i64 (r 2).v.1, .int .i64 (r 2).v.2] 50)) ⟨w.heap.size, 5, none⟩ = some (.slice a.cC s.nC a.pC) := by go_simp
  have BX := hik (cel6 x0 x1 x2 x3 x4 x5)
  have WX := hik (Wt3.new (w.alloc (.cells #[v0, .int .i64 (M : Int), v2, .slice a.cA s.nA a.pA, .slice a.cB s.nB a.pB, .slice a.cC s.nC a.pC] 35)) r 50)
  have hsz : (w.alloc (.cells #[v0, .int .i64 (M : Int), v2, .slice a.cA s.nA a.pA, .slice a.cB s.nB a.pB, .slice a.cC s.nC a.pC] 35)).heap.size = w.heap.size + 1 := by simp
  rw [hsz] at WX
  have hz := (zero_of_info infoQb).1
  clear x0 x1 x2 x3 x4 x5 hsz
  go_enter Try.func23, Try.ntmps23
  go_upto_region 1 with fail
  generalize (w.alloc (.cells #[v0, .int .i64 (M : Int), v2, .slice a.cA s.nA a.pA, .slice a.cB s.nB a.pB, .slice a.cC s.nC a.pC] 35)).alloc (.cells #[.int .i64 (r 0).v.1, .int .i64 (r 0).v.2, .int .i64 (r 1).v.1, .int .i64 (r 1).v.2, .int .i64 (r 2).v.1, .int .i64 (r 2).v.2] 50) = B at K0 BX WX ⊢
  generalize hgw : w.heap.size + 1 = gW at WX ⊢
  have HGW := hik hgw
  clear hgw
  go_wp2_with fail
  refine (eqTable_any cx rx capx p _ (hik (PairE.keep hp.out K0.out)) (by omega)).mono ?_
  rintro e W1 ⟨A, rfl, hA, k1⟩
  have HA := hik hA
  have K1 := hik (K0.out.trans k1)
  replace BX := hik (BX.out.keep k1)
  replace WX := hik (WX.out.keep k1)
  have hw1 : gW < W1.heap.size := WX.out.1
  clear k1 hA K0
  have HAC := hik (Cub.new W1 0 zE)
  have BX2 := hik (BX.out.keep ((Chg.refl nob W1).alloc (.cells (cb 0 zE) 75)))
  have WX2 := hik (WX.out.keep ((Chg.refl nob W1).alloc (.cells (cb 0 zE) 75)))
  have hbw : w.heap.size < W1.heap.size := BX.out.1
  go_wp2_with ((with_reducible refine wpList_store_cub (s := 2 ^ rx) (t := A) (.tmp 7) (.tmp 15) rfl rfl W1.heap.size ?hx ?hy HAC.out ?_); (case hx => rfl); (case hy => rfl); intro W2 r2 g2; have C2 := hik r2; have K2 := hik (Chg.near (K1.out.alloc (.cells (cb 0 zE) 75)) g2 (fun i e => by omega)); have BX3 := hik (BX2.out.chg g2 (fun e => by omega)); have WX3 := hik (WX2.out.chg g2 (fun e => by omega)); obtain ⟨x0, x1, x2, x3, x4, x5⟩ := BX3.out.six; clear r2 g2)
  clear K1 BX WX BX2 WX2 HAC hz
  generalize hgc : W1.heap.size = gC at C2 hw1 hbw ⊢
  clear hgc
  refine (colCount_any M (by omega) _ _ _ _ _ _).mono ?_
  rintro e W3 ⟨rfl, k3⟩
  have C3 := hik (C2.out.keep k3)
  have K3 := hik (K2.out.trans k3)
  replace BX3 := hik (BX3.out.keep k3)
  replace WX3 := hik (WX3.out.keep k3)
  have hc3 : gC < W3.heap.size := C3.out.lt
  clear k3 C2 K2 x0 x1 x2 x3 x4 x5
  go_wp2_with (at_make; refine wpList_make_pairs _ rfl (.tmp 17) (.tmp 17) 30 rfl 38 i0 Try.underlying30 HI.out HZ0.out HZ1.out .i64 .i64 _ _ N rfl rfl (by first | rfl | exact hwN) (by first | rfl | exact hwN) hb16 (by omega) ?_)
  intro W4 hr4 hk4
  have O4 := hik (show RowE W4 W3.heap.size N (fun _ => El.zr) from World.rowIs.congr hr4 (fun i _ => by unfold pf cA cB; split <;> rfl))
  have C4 := hik (C3.out.keep hk4)
  have K4 := hik (K3.out.trans hk4)
  have BX4 := hik (BX3.out.keep hk4)
  have WX4 := hik (WX3.out.keep hk4)
  obtain ⟨x0, x1, x2, x3, x4, x5⟩ := BX4.out.six
  clear hr4 hk4
  have hlo := K3.out.size
  clear C3 K3 BX3 WX3 hb16 HI HZ0 HZ1 hwN
  generalize hgo : W3.heap.size = gO at O4 hc3 hlo ⊢
  clear hgo
  go_wp2_with fail
  refine (matrices_any _ _ _ a.cA a.cB a.cC s.nA a.pA s.nB a.pB s.nC a.pC _).mono ?_
  rintro e W5 ⟨rfl, k5⟩
  have O5 := hik (O4.out.keep k5)
  have C5 := hik (C4.out.keep k5)
  have G5 := hik (K4.out.trans k5)
  have X5 := hik (WX4.out.keep k5)
  clear k5 O4 C4 K4 WX4 BX4 x0 x1 x2 x3 x4 x5
  have hgwlt : w.heap.size < gW := by have := HGW.out; omega
  go_wp2
  go_loopw [21] (fun i W => ∃ k : Nat, k ≤ 3 ∧ i = .int .i64 k ∧ Hid (RowE W gO N (btK s A r k)) ∧ Hid (Cub W gC (2 ^ rx) A) ∧ Hid (Wt3 W gW r) ∧ Hid (Chg nob w W)) (fun i _ => 3 - (intOf i).toNat)
  case atStart => exact ⟨0, by omega, rfl, O5, C5, X5, G5⟩
  case round =>
    clear O5 C5 X5 G5
    obtain ⟨k, hk, rfl, HO, HC, HX, HG⟩ := hrel
    rename World => wo
    by_cases hlt : k < 3
    · have hkn : ((k : Nat) : Int) < 3 := by omega
      have ix := fun W => index3_at k hlt a.cA a.cB a.cC s.nA a.pA s.nB a.pB s.nC a.pC W
      have HENT := hik (hv.out.at_ k)
      have HWIN := hik (fun (i : Nat) (hi : i < pk3 s.nA s.nB s.nC k) => win_col hs.out (k := k) hi)
      have hn2 : pk3 s.nA s.nB s.nC k ≤ 200 := by have := (sysb_ent hs.out).1; exact pk3_le this.1 this.2.1 this.2.2 k
      have HNX := hik (show btK s A r (k + 1) = btE A (r k) (pk3 s.XA s.XB s.XC k) (btK s A r k) (pk3 s.nA s.nB s.nC k) from rfl)
      have HRB := hik (show ∀ W, Wt3 W gW r → W.cell? ⟨gW, k * 2, none⟩ = some (.int .i64 (r k).v.1) ∧ W.cell? ⟨gW, k * 2 + 1, none⟩ = some (.int .i64 (r k).v.2) from fun W h => h.2 k hlt)
      generalize pk3 a.cA a.cB a.cC k = cK at ix HENT
      generalize pk3 s.nA s.nB s.nC k = nK at ix HENT HWIN HNX hn2
      generalize pk3 a.pA a.pB a.pC k = pK at ix
      generalize pk3 s.XA s.XB s.XC k = X at HENT HWIN HNX
      generalize hRK : r k = RK at HNX HRB
      generalize hBK : btK s A r k = TK at HNX HO
      clear hRK hBK
      go_wp2
      clear ix
      go_loopw [27] (fun i W => ∃ j : Nat, j ≤ nK ∧ i = .int .i64 j ∧ Hid (RowE W gO N (btE A RK X TK j)) ∧ Hid (Cub W gC (2 ^ rx) A) ∧ Hid (Wt3 W gW r) ∧ Hid (Chg nob w W)) (fun i _ => nK - (intOf i).toNat)
      case atStart => exact ⟨0, Nat.zero_le _, rfl, HO, HC, HX, HG⟩
      case round =>
        clear HO HC HX HG
        obtain ⟨j, hj, rfl, HO, HC, HX, HG⟩ := hrel
        rename World => wi
        by_cases hlj : j < nK
        · have hjn : ((j : Nat) : Int) < nK := by omega
          obtain ⟨xb, xo, rfl, hxb, c0, c1, c2⟩ := (HENT.out.keep HG.out) j hlj
          obtain ⟨ri, ci, er, ec, hri, hci, u0, u1⟩ := HWIN.out j hlj
          rw [hR.out] at hri
          rw [hM.out, ← HN.out] at hci
          rw [er] at c0
          rw [ec] at c1
          rw [← El.ofi_v (by omega) u1] at c2
          have hri64 : ri < 64 := by have := pow5 hrx; omega
          have HST := hik (show ∀ z, btE A RK X TK (j + 1) z = upE (btE A RK X TK j) ci (El.ad (btE A RK X TK j ci) (El.ml (El.ml RK (A ri)) (El.ofi (X j).2.2))) z from fun z => by
            show (if z = (X j).2.1.toNat then El.ad (btE A RK X TK j z) (El.ml RK (El.ml (El.ofi (X j).2.2) (A (X j).1.toNat))) else btE A RK X TK j z) = _
            rw [er, ec, Int.toNat_natCast, Int.toNat_natCast]
            unfold upE
            by_cases q : z = ci
            · rw [if_pos q, if_pos q, q, El.ml_assoc, El.ml_comm (A ri)]
            · rw [if_neg q, if_neg q])
          have hV2 := El.ofi_w (X j).2.2
          clear er ec u0 u1
          generalize El.ofi (X j).2.2 = V at c2 HST hV2
          generalize hTT : btE A RK X TK j = TT at HO HST
          clear hTT
          have hml : ∀ W, Calls Try.prog 43 #[.agg #[.int .i64 (El.ml RK (A ri)).v.1, .int .i64 (El.ml RK (A ri)).v.2], .agg #[.int .i64 V.v.1, .int .i64 0]] W fun e w' => e = .returned (.agg #[.int .i64 (El.ml (El.ml RK (A ri)) V).v.1, .int .i64 (El.ml (El.ml RK (A ri)) V).v.2]) ∧ Chg nob W w' := fun W => by
            have h := ml_el (El.ml RK (A ri)) V W
            rw [hV2] at h
            exact h
          clear hV2
          have KB := hik ((Chg.refl nob wi).alloc (.cells #[.int .i64 (ri : Int), .int .i64 (ci : Int), .int .i64 V.v.1] 62))
          have p0 := KB.out.see (HC.out.c0 hri64)
          have p1 := KB.out.see (HC.out.c1 hri64)
          have q0 := (HRB.out _ (HX.out.keep KB.out)).1
          have q1 := (HRB.out _ (HX.out.keep KB.out)).2
          have e0 : World.cell? (wi.alloc (.cells #[.int .i64 (ri : Int), .int .i64 (ci : Int), .int .i64 V.v.1] 62)) ⟨wi.heap.size, 0, none⟩ = some (.int .i64 (ri : Int)) := by go_simp
          have e1 : World.cell? (wi.alloc (.cells #[.int .i64 (ri : Int), .int .i64 (ci : Int), .int .i64 V.v.1] 62)) ⟨wi.heap.size, 1, none⟩ = some (.int .i64 (ci : Int)) := by go_simp
          have e2 : World.cell? (wi.alloc (.cells #[.int .i64 (ri : Int), .int .i64 (ci : Int), .int .i64 V.v.1] 62)) ⟨wi.heap.size, 2, none⟩ = some (.int .i64 V.v.1) := by go_simp
          replace HO := hik (HO.out.keep KB.out)
          replace HC := hik (HC.out.keep KB.out)
          replace HX := hik (HX.out.keep KB.out)
          replace HG := hik (HG.out.trans KB.out)
          have hi1 : (ri : Int) < 64 := by omega
          have hciN : ((ci : Nat) : Int) < N := by omega
          go_upto_region 9 with fail
          clear c0 c1 c2
          generalize wi.alloc (.cells #[.int .i64 (ri : Int), .int .i64 (ci : Int), .int .i64 V.v.1] 62) = W0 at p0 p1 q0 q1 e0 e1 e2 HO HC HX HG KB ⊢
          have E1 := hik e1
          have E2 := hik e2
          clear KB e1 e2
          go_cut [13] (fun p W => ∃ g8 : Nat, p = .pointer (some ⟨g8, 0, none⟩) ∧ Hid (W0.heap.size ≤ g8) ∧ Hid (ElB W g8 (El.ml RK (A ri))) ∧ Hid (Chg nob W0 W))
          case first =>
            have KW := hik ((Chg.refl nob W0).drew1)
            have SA := hik (fun (WW : World) (kW : Chg nob W0 WW) => (show (WW.cell? ⟨wi.heap.size, 0, none⟩ = some (.int .i64 (ri : Int)) ∧ WW.cell? ⟨gC, 1 + ri * 2, none⟩ = some (.int .i64 (A ri).v.1) ∧ WW.cell? ⟨gC, 1 + ri * 2 + 1, none⟩ = some (.int .i64 (A ri).v.2) ∧ WW.cell? ⟨gW, k * 2, none⟩ = some (.int .i64 RK.v.1) ∧ WW.cell? ⟨gW, k * 2 + 1, none⟩ = some (.int .i64 RK.v.2)) from ⟨kW.see e0, kW.see p0, kW.see p1, kW.see q0, kW.see q1⟩))
            refine wp_region_held_drew (S := fun w' => w'.cell? ⟨wi.heap.size, 0, none⟩ = some (.int .i64 (ri : Int)) ∧ w'.cell? ⟨gC, 1 + ri * 2, none⟩ = some (.int .i64 (A ri).v.1) ∧ w'.cell? ⟨gC, 1 + ri * 2 + 1, none⟩ = some (.int .i64 (A ri).v.2) ∧ w'.cell? ⟨gW, k * 2, none⟩ = some (.int .i64 RK.v.1) ∧ w'.cell? ⟨gW, k * 2 + 1, none⟩ = some (.int .i64 RK.v.2)) (by kernel_rfl) ⟨e0, p0, p1, q0, q1⟩ (fun hHeld => ?_)
            refine wpAnyH_take (i := 0) (v := ?_) rfl (by kernel_rfl) (by kernel_rfl) (by kernel_rfl) (fun _ _ _ h => h) (Or.inl ⟨by rfl, ?_⟩) (by assumption) ?_
            rotate_left 1
            · (intro w' hSw; (try dsimp only at hSw); go_simp; try with_reducible rfl)
            try simp only [Act.put, List.setIfInBounds_toArray, List.set_cons_zero, List.set_cons_succ, List.getElem_toArray, List.getElem_cons_zero, List.getElem_cons_succ]
            refine wpAnyH_take (i := 1) (v := ?_) rfl (by kernel_rfl) (by kernel_rfl) (by kernel_rfl) (fun _ _ _ h => h) (Or.inl ⟨by rfl, ?_⟩) (by assumption) ?_
            rotate_left 1
            · (intro w' hSw; (try dsimp only at hSw); go_simp; try with_reducible rfl)
            try simp only [Act.put, List.setIfInBounds_toArray, List.set_cons_zero, List.set_cons_succ, List.getElem_toArray, List.getElem_cons_zero, List.getElem_cons_succ]
            refine wpAnyH_take (i := 2) (v := ?_) rfl (by kernel_rfl) (by kernel_rfl) (by kernel_rfl) (fun _ _ _ h => h) (Or.inl ⟨by rfl, ?_⟩) (by assumption) ?_
            rotate_left 1
            · (intro w' hSw; (try dsimp only at hSw); go_simp; try with_reducible rfl)
            try simp only [Act.put, List.setIfInBounds_toArray, List.set_cons_zero, List.set_cons_succ, List.getElem_toArray, List.getElem_cons_zero, List.getElem_cons_succ]
            refine wpAnyH_take (i := 3) (v := ?_) rfl (by kernel_rfl) (by kernel_rfl) (by kernel_rfl) (fun _ _ _ h => h) (Or.inl ⟨by rfl, ?_⟩) (by assumption) ?_
            rotate_left 1
            · (intro w' hSw; (try dsimp only at hSw); go_simp; try with_reducible rfl)
            try simp only [Act.put, List.setIfInBounds_toArray, List.set_cons_zero, List.set_cons_succ, List.getElem_toArray, List.getElem_cons_zero, List.getElem_cons_succ]
            refine wpAnyH_take (i := 4) (v := ?_) rfl (by kernel_rfl) (by kernel_rfl) (by kernel_rfl) (fun _ _ _ h => h) (Or.inl ⟨by rfl, ?_⟩) (by assumption) ?_
            rotate_left 1
            · (intro w' hSw; (try dsimp only at hSw); go_simp; try with_reducible rfl)
            try simp only [Act.put, List.setIfInBounds_toArray, List.set_cons_zero, List.set_cons_succ, List.getElem_toArray, List.getElem_cons_zero, List.getElem_cons_succ]
            refine wpAnyH_take (i := 5) (v := ?_) rfl (by kernel_rfl) (by kernel_rfl) (by kernel_rfl) (fun _ _ _ h => h) (Or.inl ⟨by rfl, ?_⟩) (by assumption) ?_
            rotate_left 1
            · (intro w' hSw; (try dsimp only at hSw); go_simp; try with_reducible rfl)
            try simp only [Act.put, List.setIfInBounds_toArray, List.set_cons_zero, List.set_cons_succ, List.getElem_toArray, List.getElem_cons_zero, List.getElem_cons_succ]
            refine wpAnyH_take (i := 6) (v := ?_) rfl (by kernel_rfl) (by kernel_rfl) (by kernel_rfl) (fun _ _ _ h => h) (Or.inl ⟨by rfl, ?_⟩) (by assumption) ?_
            rotate_left 1
            · (intro w' hSw; (try dsimp only at hSw); go_simp; try with_reducible rfl)
            try simp only [Act.put, List.setIfInBounds_toArray, List.set_cons_zero, List.set_cons_succ, List.getElem_toArray, List.getElem_cons_zero, List.getElem_cons_succ]
            refine wpAnyH_take (i := 7) (v := ?_) rfl (by kernel_rfl) (by kernel_rfl) (by kernel_rfl) (fun _ _ _ h => h) (Or.inl ⟨by rfl, ?_⟩) (by assumption) ?_
            rotate_left 1
            · (intro w' hSw; (try dsimp only at hSw); go_simp; try with_reducible rfl)
            try simp only [Act.put, List.setIfInBounds_toArray, List.set_cons_zero, List.set_cons_succ, List.getElem_toArray, List.getElem_cons_zero, List.getElem_cons_succ]
            refine wpAnyH_ready (rs := [8, 9]) (by kernel_rfl) (by simp) ?_
            refine AllReadyH.cons rfl (fun K hK => ?_) ?_
            · refine stepL_callN 43 #[.tmp 33, .tmp 38] #[38, 38] (by rfl) (by rfl) #[.agg #[.int .i64 RK.v.1, .int .i64 RK.v.2], .agg #[.int .i64 (A ri).v.1, .int .i64 (A ri).v.2]] (by simp only [List.map_toArray, List.map_cons, List.map_nil] <;> rfl) (run_go Try.func43 (by kernel_rfl) (by kernel_rfl) _ _) (ml_el RK (A ri) _) ?_
              rintro e U1 ⟨he, kk⟩
              refine ⟨_, he, ?_⟩
              replace KW := hik (KW.out.trans kk)
              refine hK.out _ _ (SA.out _ KW.out) (fun hHeld => ?_)
              clear hK K
              try simp only [Act.put, List.setIfInBounds_toArray, List.set_cons_zero, List.set_cons_succ, List.getElem_toArray, List.getElem_cons_zero, List.getElem_cons_succ]
              clear he kk
              refine wpAnyH_ready (rs := [9]) (by kernel_rfl) (by simp) ?_
              refine AllReadyH.cons rfl (fun K hK => ?_) AllReadyH.nil
              simp only [List.getElem_toArray, List.getElem_cons_zero, List.getElem_cons_succ]
              go_simp
              have E8 : Hid (ElB (World.alloc U1 (.cells #[.int .i64 0, .int .i64 0] 38)) U1.heap.size El.zr) := hik (ElB.zero U1)
              have lq : W0.heap.size ≤ U1.heap.size := KW.out.size
              replace KW : Hid (Chg nob W0 (World.alloc U1 (.cells #[.int .i64 0, .int .i64 0] 38))) := hik (KW.out.alloc _)
              generalize hUA : (World.alloc U1 (.cells #[.int .i64 0, .int .i64 0] 38)) = UA1 at E8 KW ⊢
              clear hUA
              obtain ⟨g8, hgA⟩ : ∃ g, g = U1.heap.size := ⟨_, rfl⟩
              have lg8 : W0.heap.size ≤ g8 := by rw [hgA]; exact lq
              clear lq
              rw [← hgA] at E8 ⊢
              clear hgA
              refine hK.out _ _ (SA.out _ KW.out) (fun hHeld => ?_)
              clear hK K
              try simp only [Act.put, List.setIfInBounds_toArray, List.set_cons_zero, List.set_cons_succ, List.getElem_toArray, List.getElem_cons_zero, List.getElem_cons_succ]
              refine wpAnyH_ready (rs := [10]) (by kernel_rfl) (by simp) ?_
              refine AllReadyH.cons rfl (fun K hK => ?_) AllReadyH.nil
              have z0 := E8.out.c0
              have z1 := E8.out.c1
              have f0 := E8.out.fz 0
              have f1 := E8.out.fz 1
              have l7 := E8.out.lt
              have SS := SA.out _ KW.out
              have hlA : gC < W0.heap.size := HC.out.lt
              have hlX : gW < W0.heap.size := HX.out.1
              have hlE : wi.heap.size < W0.heap.size := World.block_lt_of_cell? _ _ e0
              simp only [List.getElem_toArray, List.getElem_cons_zero, List.getElem_cons_succ]
              go_simp
              refine hK.out _ _ ⟨look_two (by omega) (SS.1) 0 1 _ _, look_two (by omega) (SS.2.1) 0 1 _ _, look_two (by omega) (SS.2.2.1) 0 1 _ _, look_two (by omega) (SS.2.2.2.1) 0 1 _ _, look_two (by omega) (SS.2.2.2.2) 0 1 _ _⟩ (fun hHeld => ?_)
              clear hK K
              try simp only [Act.put, List.setIfInBounds_toArray, List.set_cons_zero, List.set_cons_succ, List.getElem_toArray, List.getElem_cons_zero, List.getElem_cons_succ]
              clear z0 z1 f0 f1 l7 SS
              replace E8 := hik (E8.out.set (El.ml RK (A ri)))
              replace KW := hik (chg2_at KW.out g8 (fun l => absurd l (by omega)) 0 1 (.int .i64 (El.ml RK (A ri)).v.1) (.int .i64 (El.ml RK (A ri)).v.2))
              generalize hUS : ((UA1.setCell ⟨g8, 0, none⟩ (.int .i64 (El.ml RK (A ri)).v.1)).setCell ⟨g8, 1, none⟩ (.int .i64 (El.ml RK (A ri)).v.2)) = US1 at E8 KW hHeld ⊢
              clear hUS
              refine wpAnyH_done (by kernel_rfl) ?_ _
              go_wp2_with fail
              go_meet
              exact ⟨g8, rfl, hik lg8, E8, KW⟩
            · refine AllReadyH.cons rfl (fun K hK => ?_) AllReadyH.nil
              simp only [List.getElem_toArray, List.getElem_cons_zero, List.getElem_cons_succ]
              go_simp
              have E8 : Hid (ElB (World.alloc W0 (.cells #[.int .i64 0, .int .i64 0] 38)).drew W0.heap.size El.zr) := hik (ElB.keep (ElB.zero W0) (Chg.refl nob _).drew1)
              have lq : W0.heap.size ≤ W0.heap.size := Nat.le_refl _
              replace KW : Hid (Chg nob W0 (World.alloc W0 (.cells #[.int .i64 0, .int .i64 0] 38)).drew) := hik (((Chg.refl nob W0).alloc _).drew1)
              generalize hUA : (World.alloc W0 (.cells #[.int .i64 0, .int .i64 0] 38)).drew = UA1 at E8 KW ⊢
              clear hUA
              obtain ⟨g8, hgA⟩ : ∃ g, g = W0.heap.size := ⟨_, rfl⟩
              have lg8 : W0.heap.size ≤ g8 := by rw [hgA]; exact lq
              clear lq
              rw [← hgA] at E8 ⊢
              clear hgA
              refine hK.out _ _ (SA.out _ KW.out) (fun hHeld => ?_)
              clear hK K
              try simp only [Act.put, List.setIfInBounds_toArray, List.set_cons_zero, List.set_cons_succ, List.getElem_toArray, List.getElem_cons_zero, List.getElem_cons_succ]
              refine wpAnyH_ready (rs := [8]) (by kernel_rfl) (by simp) ?_
              refine AllReadyH.cons rfl (fun K hK => ?_) AllReadyH.nil
              refine stepL_callN 43 #[.tmp 33, .tmp 38] #[38, 38] (by rfl) (by rfl) #[.agg #[.int .i64 RK.v.1, .int .i64 RK.v.2], .agg #[.int .i64 (A ri).v.1, .int .i64 (A ri).v.2]] (by simp only [List.map_toArray, List.map_cons, List.map_nil] <;> rfl) (run_go Try.func43 (by kernel_rfl) (by kernel_rfl) _ _) (ml_el RK (A ri) _) ?_
              rintro e U1 ⟨he, kk⟩
              replace E8 := hik (E8.out.keep kk)
              refine ⟨_, he, ?_⟩
              replace KW := hik (KW.out.trans kk)
              refine hK.out _ _ (SA.out _ KW.out) (fun hHeld => ?_)
              clear hK K
              try simp only [Act.put, List.setIfInBounds_toArray, List.set_cons_zero, List.set_cons_succ, List.getElem_toArray, List.getElem_cons_zero, List.getElem_cons_succ]
              clear he kk
              refine wpAnyH_ready (rs := [10]) (by kernel_rfl) (by simp) ?_
              refine AllReadyH.cons rfl (fun K hK => ?_) AllReadyH.nil
              have z0 := E8.out.c0
              have z1 := E8.out.c1
              have f0 := E8.out.fz 0
              have f1 := E8.out.fz 1
              have l7 := E8.out.lt
              have SS := SA.out _ KW.out
              have hlA : gC < W0.heap.size := HC.out.lt
              have hlX : gW < W0.heap.size := HX.out.1
              have hlE : wi.heap.size < W0.heap.size := World.block_lt_of_cell? _ _ e0
              simp only [List.getElem_toArray, List.getElem_cons_zero, List.getElem_cons_succ]
              go_simp
              refine hK.out _ _ ⟨look_two (by omega) (SS.1) 0 1 _ _, look_two (by omega) (SS.2.1) 0 1 _ _, look_two (by omega) (SS.2.2.1) 0 1 _ _, look_two (by omega) (SS.2.2.2.1) 0 1 _ _, look_two (by omega) (SS.2.2.2.2) 0 1 _ _⟩ (fun hHeld => ?_)
              clear hK K
              try simp only [Act.put, List.setIfInBounds_toArray, List.set_cons_zero, List.set_cons_succ, List.getElem_toArray, List.getElem_cons_zero, List.getElem_cons_succ]
              clear z0 z1 f0 f1 l7 SS
              replace E8 := hik (E8.out.set (El.ml RK (A ri)))
              replace KW := hik (chg2_at KW.out g8 (fun l => absurd l (by omega)) 0 1 (.int .i64 (El.ml RK (A ri)).v.1) (.int .i64 (El.ml RK (A ri)).v.2))
              generalize hUS : ((U1.setCell ⟨g8, 0, none⟩ (.int .i64 (El.ml RK (A ri)).v.1)).setCell ⟨g8, 1, none⟩ (.int .i64 (El.ml RK (A ri)).v.2)) = US1 at E8 KW hHeld ⊢
              clear hUS
              refine wpAnyH_done (by kernel_rfl) ?_ _
              go_wp2_with fail
              go_meet
              exact ⟨g8, rfl, hik lg8, E8, KW⟩
          case rest =>
            obtain ⟨g8, rfl, HL8, E8, KC⟩ := hcut
            rename World => W6
            clear p0 p1 q0 q1 e0
            have hl8 := HL8.out
            have hlO : gO < W0.heap.size := HO.out.lt
            replace HO := hik (HO.out.keep KC.out)
            replace HC := hik (HC.out.keep KC.out)
            replace HX := hik (HX.out.keep KC.out)
            replace HG := hik (HG.out.trans KC.out)
            have e1 := KC.out.see E1.out
            have e2 := KC.out.see E2.out
            have s0 := HO.out.c0 hci
            have s1 := HO.out.c1 hci
            have r0 := E8.out.c0
            have r1 := E8.out.c1
            clear KC HL8 E1 E2
            go_upto_region 10 with fail
            have KW := hik ((Chg.refl nob W6).drew1)
            have SA := hik (fun (WW : World) (kW : Chg nob W6 WW) => (show (WW.cell? ⟨gO, ci * 2, none⟩ = some (.int .i64 (TT ci).v.1) ∧ WW.cell? ⟨gO, ci * 2 + 1, none⟩ = some (.int .i64 (TT ci).v.2) ∧ WW.cell? ⟨g8, 0, none⟩ = some (.int .i64 (El.ml RK (A ri)).v.1) ∧ WW.cell? ⟨g8, 1, none⟩ = some (.int .i64 (El.ml RK (A ri)).v.2) ∧ WW.cell? ⟨wi.heap.size, 1, none⟩ = some (.int .i64 (ci : Int)) ∧ WW.cell? ⟨wi.heap.size, 2, none⟩ = some (.int .i64 V.v.1)) from ⟨kW.see s0, kW.see s1, kW.see r0, kW.see r1, kW.see e1, kW.see e2⟩))
            refine wp_regionL (L := 15) (S := fun w' => w'.cell? ⟨gO, ci * 2, none⟩ = some (.int .i64 (TT ci).v.1) ∧ w'.cell? ⟨gO, ci * 2 + 1, none⟩ = some (.int .i64 (TT ci).v.2) ∧ w'.cell? ⟨g8, 0, none⟩ = some (.int .i64 (El.ml RK (A ri)).v.1) ∧ w'.cell? ⟨g8, 1, none⟩ = some (.int .i64 (El.ml RK (A ri)).v.2) ∧ w'.cell? ⟨wi.heap.size, 1, none⟩ = some (.int .i64 (ci : Int)) ∧ w'.cell? ⟨wi.heap.size, 2, none⟩ = some (.int .i64 V.v.1)) (by kernel_rfl) ⟨s0, s1, r0, r1, e1, e2⟩ (fun hHeld => ?_)
            refine wpAnyL_take (i := 0) (v := ?_) rfl (by kernel_rfl) (by kernel_rfl) (by kernel_rfl) (fun _ _ _ h => h) (by rfl) (by kernel_rfl) (by kernel_rfl) (Or.inl ⟨by rfl, ?_⟩) (by assumption) ?_
            rotate_left 1
            · (intro w' hSw; (try dsimp only at hSw); go_simp; try with_reducible rfl)
            try simp only [Act.put, List.setIfInBounds_toArray, List.set_cons_zero, List.set_cons_succ, List.getElem_toArray, List.getElem_cons_zero, List.getElem_cons_succ]
            refine wpAnyL_take (i := 1) (v := ?_) rfl (by kernel_rfl) (by kernel_rfl) (by kernel_rfl) (fun _ _ _ h => h) (by rfl) (by kernel_rfl) (by kernel_rfl) (Or.inl ⟨by rfl, ?_⟩) (by assumption) ?_
            rotate_left 1
            · (intro w' hSw; (try dsimp only at hSw); go_simp; try with_reducible rfl)
            try simp only [Act.put, List.setIfInBounds_toArray, List.set_cons_zero, List.set_cons_succ, List.getElem_toArray, List.getElem_cons_zero, List.getElem_cons_succ]
            refine wpAnyL_take (i := 2) (v := ?_) rfl (by kernel_rfl) (by kernel_rfl) (by kernel_rfl) (fun _ _ _ h => h) (by rfl) (by kernel_rfl) (by kernel_rfl) (Or.inl ⟨by rfl, ?_⟩) (by assumption) ?_
            rotate_left 1
            · (intro w' hSw; (try dsimp only at hSw); go_simp; try with_reducible rfl)
            try simp only [Act.put, List.setIfInBounds_toArray, List.set_cons_zero, List.set_cons_succ, List.getElem_toArray, List.getElem_cons_zero, List.getElem_cons_succ]
            refine wpAnyL_take (i := 3) (v := ?_) rfl (by kernel_rfl) (by kernel_rfl) (by kernel_rfl) (fun _ _ _ h => h) (by rfl) (by kernel_rfl) (by kernel_rfl) (Or.inl ⟨by rfl, ?_⟩) (by assumption) ?_
            rotate_left 1
            · (intro w' hSw; (try dsimp only at hSw); go_simp; try with_reducible rfl)
            try simp only [Act.put, List.setIfInBounds_toArray, List.set_cons_zero, List.set_cons_succ, List.getElem_toArray, List.getElem_cons_zero, List.getElem_cons_succ]
            refine wpAnyL_take (i := 4) (v := ?_) rfl (by kernel_rfl) (by kernel_rfl) (by kernel_rfl) (fun _ _ _ h => h) (by rfl) (by kernel_rfl) (by kernel_rfl) (Or.inl ⟨by rfl, ?_⟩) (by assumption) ?_
            rotate_left 1
            · (intro w' hSw; (try dsimp only at hSw); go_simp; try with_reducible rfl)
            try simp only [Act.put, List.setIfInBounds_toArray, List.set_cons_zero, List.set_cons_succ, List.getElem_toArray, List.getElem_cons_zero, List.getElem_cons_succ]
            refine wpAnyL_take (i := 5) (v := ?_) rfl (by kernel_rfl) (by kernel_rfl) (by kernel_rfl) (fun _ _ _ h => h) (by rfl) (by kernel_rfl) (by kernel_rfl) (Or.inl ⟨by rfl, ?_⟩) (by assumption) ?_
            rotate_left 1
            · (intro w' hSw; (try dsimp only at hSw); go_simp; try with_reducible rfl)
            try simp only [Act.put, List.setIfInBounds_toArray, List.set_cons_zero, List.set_cons_succ, List.getElem_toArray, List.getElem_cons_zero, List.getElem_cons_succ]
            refine wpAnyL_take (i := 6) (v := ?_) rfl (by kernel_rfl) (by kernel_rfl) (by kernel_rfl) (fun _ _ _ h => h) (by rfl) (by kernel_rfl) (by kernel_rfl) (Or.inl ⟨by rfl, ?_⟩) (by assumption) ?_
            rotate_left 1
            · (intro w' hSw; (try dsimp only at hSw); go_simp; try with_reducible rfl)
            try simp only [Act.put, List.setIfInBounds_toArray, List.set_cons_zero, List.set_cons_succ, List.getElem_toArray, List.getElem_cons_zero, List.getElem_cons_succ]
            refine wpAnyL_take (i := 7) (v := ?_) rfl (by kernel_rfl) (by kernel_rfl) (by kernel_rfl) (fun _ _ _ h => h) (by rfl) (by kernel_rfl) (by kernel_rfl) (Or.inl ⟨by rfl, ?_⟩) (by assumption) ?_
            rotate_left 1
            · (intro w' hSw; (try dsimp only at hSw); go_simp; try with_reducible rfl)
            try simp only [Act.put, List.setIfInBounds_toArray, List.set_cons_zero, List.set_cons_succ, List.getElem_toArray, List.getElem_cons_zero, List.getElem_cons_succ]
            refine wpAnyL_take (i := 8) (v := ?_) rfl (by kernel_rfl) (by kernel_rfl) (by kernel_rfl) (fun _ _ _ h => h) (by rfl) (by kernel_rfl) (by kernel_rfl) (Or.inl ⟨by rfl, ?_⟩) (by assumption) ?_
            rotate_left 1
            · (intro w' hSw; (try dsimp only at hSw); go_simp; try with_reducible rfl)
            try simp only [Act.put, List.setIfInBounds_toArray, List.set_cons_zero, List.set_cons_succ, List.getElem_toArray, List.getElem_cons_zero, List.getElem_cons_succ]
            refine wpAnyL_take (i := 9) (v := ?_) rfl (by kernel_rfl) (by kernel_rfl) (by kernel_rfl) (fun _ _ _ h => h) (by rfl) (by kernel_rfl) (by kernel_rfl) (Or.inl ⟨by rfl, ?_⟩) (by assumption) ?_
            rotate_left 1
            · (intro w' hSw; (try dsimp only at hSw); go_simp; try with_reducible rfl)
            try simp only [Act.put, List.setIfInBounds_toArray, List.set_cons_zero, List.set_cons_succ, List.getElem_toArray, List.getElem_cons_zero, List.getElem_cons_succ]
            refine wpAnyL_take (i := 10) (v := ?_) rfl (by kernel_rfl) (by kernel_rfl) (by kernel_rfl) (fun _ _ _ h => h) (by rfl) (by kernel_rfl) (by kernel_rfl) (Or.inl ⟨by rfl, ?_⟩) (by assumption) ?_
            rotate_left 1
            · (intro w' hSw; (try dsimp only at hSw); go_simp; try with_reducible rfl)
            try simp only [Act.put, List.setIfInBounds_toArray, List.set_cons_zero, List.set_cons_succ, List.getElem_toArray, List.getElem_cons_zero, List.getElem_cons_succ]
            refine wpAnyL_take (i := 11) (v := ?_) rfl (by kernel_rfl) (by kernel_rfl) (by kernel_rfl) (fun _ _ _ h => h) (by rfl) (by kernel_rfl) (by kernel_rfl) (Or.inl ⟨by rfl, ?_⟩) (by assumption) ?_
            rotate_left 1
            · (intro w' hSw; (try dsimp only at hSw); go_simp; try with_reducible rfl)
            try simp only [Act.put, List.setIfInBounds_toArray, List.set_cons_zero, List.set_cons_succ, List.getElem_toArray, List.getElem_cons_zero, List.getElem_cons_succ]
            refine wpAnyL_ready (rs := [12]) (by kernel_rfl) (by simp) ?_
            refine AllReadyL.cons rfl (fun K hK => ?_) AllReadyL.nil
            refine stepL_callN 43 #[.tmp 48, .tmp 51] #[38, 38] (by rfl) (by rfl) #[.agg #[.int .i64 (El.ml RK (A ri)).v.1, .int .i64 (El.ml RK (A ri)).v.2], .agg #[.int .i64 V.v.1, .int .i64 0]] (by simp only [List.map_toArray, List.map_cons, List.map_nil] <;> rfl) (run_go Try.func43 (by kernel_rfl) (by kernel_rfl) _ _) (hml _) ?_
            rintro e U1 ⟨he, kk⟩
            refine ⟨_, he, ?_⟩
            replace KW := hik (KW.out.trans kk)
            refine hK.out _ _ (SA.out _ KW.out) (fun hHeld => ?_)
            clear hK K
            try simp only [Act.put, List.setIfInBounds_toArray, List.set_cons_zero, List.set_cons_succ, List.getElem_toArray, List.getElem_cons_zero, List.getElem_cons_succ]
            clear he kk
            refine wpAnyL_ready (rs := [13]) (by kernel_rfl) (by simp) ?_
            refine AllReadyL.cons rfl (fun K hK => ?_) AllReadyL.nil
            refine stepL_callN 44 #[.tmp 47, .tmp 52] #[38, 38] (by rfl) (by rfl) #[.agg #[.int .i64 (TT ci).v.1, .int .i64 (TT ci).v.2], .agg #[.int .i64 (El.ml (El.ml RK (A ri)) V).v.1, .int .i64 (El.ml (El.ml RK (A ri)) V).v.2]] (by simp only [List.map_toArray, List.map_cons, List.map_nil] <;> rfl) (run_go Try.func44 (by kernel_rfl) (by kernel_rfl) _ _) (ad_el (TT ci) (El.ml (El.ml RK (A ri)) V) _) ?_
            rintro e U2 ⟨he, kk⟩
            refine ⟨_, he, ?_⟩
            replace KW := hik (KW.out.trans kk)
            refine hK.out _ _ (SA.out _ KW.out) (fun hHeld => ?_)
            clear hK K
            try simp only [Act.put, List.setIfInBounds_toArray, List.set_cons_zero, List.set_cons_succ, List.getElem_toArray, List.getElem_cons_zero, List.getElem_cons_succ]
            clear he kk
            refine wpAnyL_take (i := 14) (v := ?_) rfl (by kernel_rfl) (by kernel_rfl) (by kernel_rfl) (fun _ _ _ h => h) (by rfl) (by kernel_rfl) (by kernel_rfl) (Or.inl ⟨by rfl, ?_⟩) (by assumption) ?_
            rotate_left 1
            · (intro w' hSw; (try dsimp only at hSw); go_simp; try with_reducible rfl)
            try simp only [Act.put, List.setIfInBounds_toArray, List.set_cons_zero, List.set_cons_succ, List.getElem_toArray, List.getElem_cons_zero, List.getElem_cons_succ]
            refine wpAnyL_ready (rs := [15]) (by kernel_rfl) (by simp) ?_
            refine AllReadyL.last rfl (by kernel_rfl) (fun K hK => ?_)
            have EN := hik (HO.out.keep KW.out)
            have g0 := EN.out.c0 hci
            have g1 := EN.out.c1 hci
            have f0 := World.rowIs.frozen EN.out (ci * 2)
            have f1 := World.rowIs.frozen EN.out (ci * 2 + 1)
            have ln : gO < U2.heap.size := EN.out.lt
            simp only [List.getElem_toArray, List.getElem_cons_zero, List.getElem_cons_succ]
            go_simp
            refine hK.out _ _ ?_
            clear hK K
            try simp only [Act.put, List.setIfInBounds_toArray, List.set_cons_zero, List.set_cons_succ, List.getElem_toArray, List.getElem_cons_zero, List.getElem_cons_succ]
            clear g0 g1 f0 f1 ln
            refine wpAnyL_done (by kernel_rfl) ?_ _
            have O2 : Hid (RowE _ gO N (btE A RK X TK (j + 1))) := hik ((EN.out.set ci (El.ad (TT ci) (El.ml (El.ml RK (A ri)) V))).congr (fun z _ => (HST.out z).symm))
            have A2 := hik (Cub.other (HC.out.keep KW.out) (g := gO) (by omega) (ci * 2) (ci * 2 + 1) (.int .i64 (El.ad (TT ci) (El.ml (El.ml RK (A ri)) V)).v.1) (.int .i64 (El.ad (TT ci) (El.ml (El.ml RK (A ri)) V)).v.2))
            have L2 := hik (Wt3.other (HX.out.keep KW.out) (b := gO) (by omega) (ci * 2) (ci * 2 + 1) (.int .i64 (El.ad (TT ci) (El.ml (El.ml RK (A ri)) V)).v.1) (.int .i64 (El.ad (TT ci) (El.ml (El.ml RK (A ri)) V)).v.2))
            have G2 := hik (chg2_at (HG.out.trans KW.out) gO (fun l => absurd l (by omega)) (ci * 2) (ci * 2 + 1) (.int .i64 (El.ad (TT ci) (El.ml (El.ml RK (A ri)) V)).v.1) (.int .i64 (El.ad (TT ci) (El.ml (El.ml RK (A ri)) V)).v.2))
            generalize hE : ((U2.setCell ⟨gO, ci * 2, none⟩ (.int .i64 (El.ad (TT ci) (El.ml (El.ml RK (A ri)) V)).v.1)).setCell ⟨gO, ci * 2 + 1, none⟩ (.int .i64 (El.ad (TT ci) (El.ml (El.ml RK (A ri)) V)).v.2)) = W7 at O2 A2 L2 G2 ⊢
            clear hE EN KW SA hHeld e1 e2 s0 s1 r0 r1 HO HC HX HG
            go_wp2
            go_roundw
            case rel => exact ⟨j + 1, by omega, by go_num, O2, A2, L2, G2⟩
            case measure => simp [intOf]; omega
        · obtain rfl : nK = j := by omega
          go_wp2
          go_roundw
          case rel => exact ⟨k + 1, by omega, by go_num, hik (by rw [HNX.out]; exact HO.out), HC, HX, HG⟩
          case measure => simp [intOf]; omega
    · obtain rfl : k = 3 := by omega
      go_wp2
      go_ret
      exact ⟨gO, rfl, hlo, HO.out.congr (fun i _ => HBT.out A HA.out 3 i), HG.out⟩

end Go.Proofs.Ytkfahghcbkdafaa
