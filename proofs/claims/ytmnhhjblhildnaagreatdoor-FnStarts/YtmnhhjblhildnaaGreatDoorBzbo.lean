/- Several texts in one: What the program's bound table answers: a contract. Conditions: a right system, right elements, as many as its rows. · The laws' helpers on entries and systems: copies, sizes, likenesses, marks: contracts. Conditions: rows that can be read, lengths of at most 2 to the 40. · The laws' helpers on systems: copies, sizes, likenesses: contracts. Conditions: rows that can be read, lengths of at most 2 to the 40. · What the program's BoundTable answers: a contract. Conditions: rows that can be read, lengths of at most 2 to the 40. -/
import Derived.Test.YtmnhhjblhildnaaGreatDoorBzbk
import Derived.Test.YtmnhhjblhildnaaGreatDoorBzau
import Derived.Test.YtmnhhjblhildnaaGreatDoorBzav
import Derived.Deep.DeepCutAuto
import Derived.Test.YtmnhhjblhildnaaGreatDoorBzai
import Derived.Deep.RegionHeld3
import Derived.Test.YtmnhhjblhildnaaGreatDoorBzaj
namespace Go.Proofs.YtmnhhjblhildnaaGreatDoor
open Go.ChangeShapes Go.WideShapes Go.ChangeAt Go.RowKit
set_option linter.unusedVariables false
set_option maxRecDepth 100000
set_option linter.unusedSimpArgs false

/-- Three elements that lie in a block. -/
def Wt3 (W : World) (g : Nat) (r : Nat → El) : Prop := g < W.heap.size ∧ ∀ i, i < 3 → W.cell? ⟨g, i * 2, none⟩ = some (.int .i64 (r i).v.1) ∧ W.cell? ⟨g, i * 2 + 1, none⟩ = some (.int .i64 (r i).v.2)
theorem Wt3.chg {P : Nat → Prop} {W W' : World} {g : Nat} {r : Nat → El} (h : Wt3 W g r) (k : Chg P W W') (hp : ¬ P g) : Wt3 W' g r :=
  ⟨Nat.lt_of_lt_of_le h.1 k.size, fun i hi => by rw [k.cell (p := ⟨g, i * 2, none⟩) h.1 hp, k.cell (p := ⟨g, i * 2 + 1, none⟩) h.1 hp]; exact h.2 i hi⟩
theorem Wt3.keep {W W' : World} {g : Nat} {r : Nat → El} (h : Wt3 W g r) (k : Chg nob W W') : Wt3 W' g r := h.chg k (fun x => x)
theorem Wt3.other {W : World} {g b : Nat} {r : Nat → El} (h : Wt3 W g r) (hne : g ≠ b) (o o' : Nat) (u v : Value) : Wt3 ((W.setCell ⟨b, o, none⟩ u).setCell ⟨b, o', none⟩ v) g r :=
  ⟨by simpa using h.1, fun i hi => ⟨look_two hne (h.2 i hi).1 o o' u v, look_two hne (h.2 i hi).2 o o' u v⟩⟩
theorem Wt3.new (W : World) (r : Nat → El) (t : TypeId) : Wt3 (W.alloc (.cells #[.int .i64 (r 0).v.1, .int .i64 (r 0).v.2, .int .i64 (r 1).v.1, .int .i64 (r 1).v.2, .int .i64 (r 2).v.1, .int .i64 (r 2).v.2] t)) W.heap.size r :=
  ⟨by simp, fun i hi => by rcases (show i = 0 ∨ i = 1 ∨ i = 2 by omega) with rfl | rfl | rfl <;> simp⟩

set_option maxHeartbeats 8000000 in
theorem boundT_any (s : Sy) (a : SyA) (v0 v2 : Value) (M : Nat) (cx : Option Addr) (rx capx : Nat) (p : Nat → El) (r : Nat → El) (w : World) (hv : Hid (SyV w s a)) (hp : Hid (PairE w cx rx p)) (hs : Hid (sysb s = true)) (hM : Hid (s.q.toNat = M)) (hR : Hid (s.r.toNat = rx)) (hM5 : M ≤ 5) (hrx : rx ≤ 5) :
    Calls Tryz.prog 29 #[.agg #[v0, .int .i64 (M : Int), v2, .slice a.cA s.nA a.pA, .slice a.cB s.nB a.pB, .slice a.cC s.nC a.pC], .slice cx rx capx, .agg #[.int .i64 (r 0).v.1, .int .i64 (r 0).v.2, .int .i64 (r 1).v.1, .int .i64 (r 1).v.2, .int .i64 (r 2).v.1, .int .i64 (r 2).v.2]] w fun e w' => TbAns w (2 ^ M) (btK s (El.eqp p rx) r 3) e w' := by
  obtain ⟨i0, hi, hz0, hz1, hz2⟩ := info_parts infoExt
  have HI := hik hi
  have HZ0 := hik hz0
  have HZ1 := hik hz1
  obtain ⟨N, hN⟩ : ∃ N, N = 2 ^ M := ⟨_, rfl⟩
  have hN32 : N ≤ 32 := by rw [hN]; exact pow5 hM5
  have hb16 : i0.bytes * N ≤ 281474976710656 := by rw [hz2]; omega
  have hwN : (2 : Int) ^ M = (N : Int) := by rw [hN]; exact (pow_cast M).symm
  rw [← hN]
  have HN := hik hN
  have HBT := hik (show ∀ A : Nat → El, (∀ i, i < 2 ^ rx → A i = El.eqp p rx i) → ∀ k j, btK s A r k j = btK s (El.eqp p rx) r k j from fun A hA k j => btK_congr (fun k i hi => by
    obtain ⟨ri, ci, er, ec, hri, hci, u0, u1⟩ := win_col hs.out hi
    rw [er, Int.toNat_natCast]
    exact hA ri (by rw [hR.out] at hri; exact hri)) k j)
  clear hN hi hz0 hz1 hz2
  have K0 := hik (((Chg.refl nob w).alloc (.cells #[v0, .int .i64 (M : Int), v2, .slice a.cA s.nA a.pA, .slice a.cB s.nB a.pB, .slice a.cC s.nC a.pC] 25)).alloc (.cells #[.int .i64 (r 0).v.1, .int .i64 (r 0).v.2, .int .i64 (r 1).v.1, .int .i64 (r 1).v.2, .int .i64 (r 2).v.1, .int .i64 (r 2).v.2] 64))
  have x0 : World.cell? ((w.alloc (.cells #[v0, .int .i64 (M : Int), v2, .slice a.cA s.nA a.pA, .slice a.cB s.nB a.pB, .slice a.cC s.nC a.pC] 25)).alloc (.cells #[.int .i64 (r 0).v.1, .int .i64 (r 0).v.2, .int .i64 (r 1).v.1, .int .i64 (r 1).v.2, .int .i64 (r 2).v.1, .int .i64 (r 2).v.2] 64)) ⟨w.heap.size, 0, none⟩ = some v0 := by go_simp
  have x1 : World.cell? ((w.alloc (.cells #[v0, .int .i64 (M : Int), v2, .slice a.cA s.nA a.pA, .slice a.cB s.nB a.pB, .slice a.cC s.nC a.pC] 25)).alloc (.cells #[.int .i64 (r 0).v.1, .int .i64 (r 0).v.2, .int .i64 (r 1).v.1, .int .i64 (r 1).v.2, .int .i64 (r 2).v.1, .int .i64 (r 2).v.2] 64)) ⟨w.heap.size, 1, none⟩ = some (.int .i64 (M : Int)) := by go_simp
  have x2 : World.cell? ((w.alloc (.cells #[v0, .int .i64 (M : Int), v2, .slice a.cA s.nA a.pA, .slice a.cB s.nB a.pB, .slice a.cC s.nC a.pC] 25)).alloc (.cells #[.int .i64 (r 0).v.1, .int .i64 (r 0).v.2, .int .i64 (r 1).v.1, .int .i64 (r 1).v.2, .int .i64 (r 2).v.1, .int .i64 (r 2).v.2] 64)) ⟨w.heap.size, 2, none⟩ = some v2 := by go_simp
  have x3 : World.cell? ((w.alloc (.cells #[v0, .int .i64 (M : Int), v2, .slice a.cA s.nA a.pA, .slice a.cB s.nB a.pB, .slice a.cC s.nC a.pC] 25)).alloc (.cells #[.int .i64 (r 0).v.1, .int .i64 (r 0).v.2, .int .i64 (r 1).v.1, .int .i64 (r 1).v.2, .int .i64 (r 2).v.1, .int .i64 (r 2).v.2] 64)) ⟨w.heap.size, 3, none⟩ = some (.slice a.cA s.nA a.pA) := by go_simp
  have x4 : World.cell? ((w.alloc (.cells #[v0, .int .i64 (M : Int), v2, .slice a.cA s.nA a.pA, .slice a.cB s.nB a.pB, .slice a.cC s.nC a.pC] 25)).alloc (.cells #[.int .i64 (r 0).v.1, .int .i64 (r 0).v.2, .int .i64 (r 1).v.1, .int .i64 (r 1).v.2, .int .i64 (r 2).v.1, .int .i64 (r 2).v.2] 64)) ⟨w.heap.size, 4, none⟩ = some (.slice a.cB s.nB a.pB) := by go_simp
  have x5 : World.cell? ((w.alloc (.cells #[v0, .int .i64 (M : Int), v2, .slice a.cA s.nA a.pA, .slice a.cB s.nB a.pB, .slice a.cC s.nC a.pC] 25)).alloc (.cells #[.int .i64 (r 0).v.1, .int .i64 (r 0).v.2, .int .i64 (r 1).v.1, .int .i64 (r 1).v.2, .int .i64 (r 2).v.1, .int .i64 (r 2).v.2] 64)) ⟨w.heap.size, 5, none⟩ = some (.slice a.cC s.nC a.pC) := by go_simp
  have BX := hik (cel6 x0 x1 x2 x3 x4 x5)
  have WX := hik (Wt3.new (w.alloc (.cells #[v0, .int .i64 (M : Int), v2, .slice a.cA s.nA a.pA, .slice a.cB s.nB a.pB, .slice a.cC s.nC a.pC] 25)) r 64)
  have hsz : (w.alloc (.cells #[v0, .int .i64 (M : Int), v2, .slice a.cA s.nA a.pA, .slice a.cB s.nB a.pB, .slice a.cC s.nC a.pC] 25)).heap.size = w.heap.size + 1 := by simp
  rw [hsz] at WX
  have hz := (zero_of_info infoQb).1
  clear x0 x1 x2 x3 x4 x5 hsz
  go_enter Tryz.func29, Tryz.ntmps29
  go_upto_region 1 with fail
  generalize (w.alloc (.cells #[v0, .int .i64 (M : Int), v2, .slice a.cA s.nA a.pA, .slice a.cB s.nB a.pB, .slice a.cC s.nC a.pC] 25)).alloc (.cells #[.int .i64 (r 0).v.1, .int .i64 (r 0).v.2, .int .i64 (r 1).v.1, .int .i64 (r 1).v.2, .int .i64 (r 2).v.1, .int .i64 (r 2).v.2] 64) = B at K0 BX WX ⊢
  generalize hgw : w.heap.size + 1 = gW at WX ⊢
  have HGW := hik hgw
  clear hgw
  go_wp2_with fail
  refine (eqTable_any cx rx capx p _ (hik (PairE.keep hp.out K0.out)) (by omega)).mono ?_
  rintro e W1 ⟨A, rfl, hA, k1⟩
  have HA := hik hA
  have K1 := hik (K0.out.trans k1)
  replace BX := hik (BX.out.keep k1)
  replace WX := hik (WX.out.keep k1)
  have hw1 : gW < W1.heap.size := WX.out.1
  clear k1 hA K0
  have HAC := hik (Cub.new W1 0 zE)
  have BX2 := hik (BX.out.keep ((Chg.refl nob W1).alloc (.cells (cb 0 zE) 70)))
  have WX2 := hik (WX.out.keep ((Chg.refl nob W1).alloc (.cells (cb 0 zE) 70)))
  have hbw : w.heap.size < W1.heap.size := BX.out.1
  go_wp2_with ((with_reducible refine wpList_store_cub (s := 2 ^ rx) (t := A) (.tmp 7) (.tmp 15) rfl rfl W1.heap.size ?hx ?hy HAC.out ?_); (case hx => rfl); (case hy => rfl); intro W2 r2 g2; have C2 := hik r2; have K2 := hik (Chg.near (K1.out.alloc (.cells (cb 0 zE) 70)) g2 (fun i e => by omega)); have BX3 := hik (BX2.out.chg g2 (fun e => by omega)); have WX3 := hik (WX2.out.chg g2 (fun e => by omega)); obtain ⟨x0, x1, x2, x3, x4, x5⟩ := BX3.out.six; clear r2 g2)
  clear K1 BX WX BX2 WX2 HAC hz
  generalize hgc : W1.heap.size = gC at C2 hw1 hbw ⊢
  clear hgc
  refine (colCount_any M (by omega) _ _ _ _ _ _).mono ?_
  rintro e W3 ⟨rfl, k3⟩
  have C3 := hik (C2.out.keep k3)
  have K3 := hik (K2.out.trans k3)
  replace BX3 := hik (BX3.out.keep k3)
  replace WX3 := hik (WX3.out.keep k3)
  have hc3 : gC < W3.heap.size := C3.out.lt
  clear k3 C2 K2 x0 x1 x2 x3 x4 x5
  go_wp2_with (at_make; refine wpList_make_pairs _ rfl (.tmp 17) (.tmp 17) 32 rfl 42 i0 Tryz.underlying32 HI.out HZ0.out HZ1.out .i64 .i64 _ _ N rfl rfl (by first | rfl | exact hwN) (by first | rfl | exact hwN) hb16 (by omega) ?_)
  intro W4 hr4 hk4
  have O4 := hik (show RowE W4 W3.heap.size N (fun _ => El.zr) from World.rowIs.congr hr4 (fun i _ => by unfold pf cA cB; split <;> rfl))
  have C4 := hik (C3.out.keep hk4)
  have K4 := hik (K3.out.trans hk4)
  have BX4 := hik (BX3.out.keep hk4)
  have WX4 := hik (WX3.out.keep hk4)
  obtain ⟨x0, x1, x2, x3, x4, x5⟩ := BX4.out.six
  clear hr4 hk4
  have hlo := K3.out.size
  clear C3 K3 BX3 WX3 hb16 HI HZ0 HZ1 hwN
  generalize hgo : W3.heap.size = gO at O4 hc3 hlo ⊢
  clear hgo
  go_wp2_with fail
  refine (matrices_any _ _ _ a.cA a.cB a.cC s.nA a.pA s.nB a.pB s.nC a.pC _).mono ?_
  rintro e W5 ⟨rfl, k5⟩
  have O5 := hik (O4.out.keep k5)
  have C5 := hik (C4.out.keep k5)
  have G5 := hik (K4.out.trans k5)
  have X5 := hik (WX4.out.keep k5)
  clear k5 O4 C4 K4 WX4 BX4 x0 x1 x2 x3 x4 x5
  have hgwlt : w.heap.size < gW := by have := HGW.out; omega
  go_wp2
  go_loopw [21] (fun i W => ∃ k : Nat, k ≤ 3 ∧ i = .int .i64 k ∧ Hid (RowE W gO N (btK s A r k)) ∧ Hid (Cub W gC (2 ^ rx) A) ∧ Hid (Wt3 W gW r) ∧ Hid (Chg nob w W)) (fun i _ => 3 - (intOf i).toNat)
  case atStart => exact ⟨0, by omega, rfl, O5, C5, X5, G5⟩
  case round =>
    clear O5 C5 X5 G5
    obtain ⟨k, hk, rfl, HO, HC, HX, HG⟩ := hrel
    rename World => wo
    by_cases hlt : k < 3
    · have hkn : ((k : Nat) : Int) < 3 := by omega
      have ix := fun W => index3_at k hlt a.cA a.cB a.cC s.nA a.pA s.nB a.pB s.nC a.pC W
      have HENT := hik (hv.out.at_ k)
      have HWIN := hik (fun (i : Nat) (hi : i < pk3 s.nA s.nB s.nC k) => win_col hs.out (k := k) hi)
      have hn2 : pk3 s.nA s.nB s.nC k ≤ 200 := by have := (sysb_ent hs.out).1; exact pk3_le this.1 this.2.1 this.2.2 k
      have HNX := hik (show btK s A r (k + 1) = btE A (r k) (pk3 s.XA s.XB s.XC k) (btK s A r k) (pk3 s.nA s.nB s.nC k) from rfl)
      have HRB := hik (show ∀ W, Wt3 W gW r → W.cell? ⟨gW, k * 2, none⟩ = some (.int .i64 (r k).v.1) ∧ W.cell? ⟨gW, k * 2 + 1, none⟩ = some (.int .i64 (r k).v.2) from fun W h => h.2 k hlt)
      generalize pk3 a.cA a.cB a.cC k = cK at ix HENT
      generalize pk3 s.nA s.nB s.nC k = nK at ix HENT HWIN HNX hn2
      generalize pk3 a.pA a.pB a.pC k = pK at ix
      generalize pk3 s.XA s.XB s.XC k = X at HENT HWIN HNX
      generalize hRK : r k = RK at HNX HRB
      generalize hBK : btK s A r k = TK at HNX HO
      clear hRK hBK
      go_wp2
      clear ix
      go_loopw [27] (fun i W => ∃ j : Nat, j ≤ nK ∧ i = .int .i64 j ∧ Hid (RowE W gO N (btE A RK X TK j)) ∧ Hid (Cub W gC (2 ^ rx) A) ∧ Hid (Wt3 W gW r) ∧ Hid (Chg nob w W)) (fun i _ => nK - (intOf i).toNat)
      case atStart => exact ⟨0, Nat.zero_le _, rfl, HO, HC, HX, HG⟩
      case round =>
        clear HO HC HX HG
        obtain ⟨j, hj, rfl, HO, HC, HX, HG⟩ := hrel
        rename World => wi
        by_cases hlj : j < nK
        · have hjn : ((j : Nat) : Int) < nK := by omega
          obtain ⟨xb, xo, rfl, hxb, c0, c1, c2⟩ := (HENT.out.keep HG.out) j hlj
          obtain ⟨ri, ci, er, ec, hri, hci, u0, u1⟩ := HWIN.out j hlj
          rw [hR.out] at hri
          rw [hM.out, ← HN.out] at hci
          rw [er] at c0
          rw [ec] at c1
          rw [← El.ofi_v (by omega) u1] at c2
          have hri64 : ri < 64 := by have := pow5 hrx; omega
          have HST := hik (show ∀ z, btE A RK X TK (j + 1) z = upE (btE A RK X TK j) ci (El.ad (btE A RK X TK j ci) (El.ml (El.ml RK (A ri)) (El.ofi (X j).2.2))) z from fun z => by
            show (if z = (X j).2.1.toNat then El.ad (btE A RK X TK j z) (El.ml RK (El.ml (El.ofi (X j).2.2) (A (X j).1.toNat))) else btE A RK X TK j z) = _
            rw [er, ec, Int.toNat_natCast, Int.toNat_natCast]
            unfold upE
            by_cases q : z = ci
            · rw [if_pos q, if_pos q, q, El.ml_assoc, El.ml_comm (A ri)]
            · rw [if_neg q, if_neg q])
          have hV2 := El.ofi_w (X j).2.2
          clear er ec u0 u1
          generalize El.ofi (X j).2.2 = V at c2 HST hV2
          generalize hTT : btE A RK X TK j = TT at HO HST
          clear hTT
          have hml : ∀ W, Calls Tryz.prog 37 #[.agg #[.int .i64 (El.ml RK (A ri)).v.1, .int .i64 (El.ml RK (A ri)).v.2], .agg #[.int .i64 V.v.1, .int .i64 0]] W fun e w' => e = .returned (.agg #[.int .i64 (El.ml (El.ml RK (A ri)) V).v.1, .int .i64 (El.ml (El.ml RK (A ri)) V).v.2]) ∧ Chg nob W w' := fun W => by
            have h := ml_el (El.ml RK (A ri)) V W
            rw [hV2] at h
            exact h
          clear hV2
          have KB := hik ((Chg.refl nob wi).alloc (.cells #[.int .i64 (ri : Int), .int .i64 (ci : Int), .int .i64 V.v.1] 79))
          have p0 := KB.out.see (HC.out.c0 hri64)
          have p1 := KB.out.see (HC.out.c1 hri64)
          have q0 := (HRB.out _ (HX.out.keep KB.out)).1
          have q1 := (HRB.out _ (HX.out.keep KB.out)).2
          have e0 : World.cell? (wi.alloc (.cells #[.int .i64 (ri : Int), .int .i64 (ci : Int), .int .i64 V.v.1] 79)) ⟨wi.heap.size, 0, none⟩ = some (.int .i64 (ri : Int)) := by go_simp
          have e1 : World.cell? (wi.alloc (.cells #[.int .i64 (ri : Int), .int .i64 (ci : Int), .int .i64 V.v.1] 79)) ⟨wi.heap.size, 1, none⟩ = some (.int .i64 (ci : Int)) := by go_simp
          have e2 : World.cell? (wi.alloc (.cells #[.int .i64 (ri : Int), .int .i64 (ci : Int), .int .i64 V.v.1] 79)) ⟨wi.heap.size, 2, none⟩ = some (.int .i64 V.v.1) := by go_simp
          replace HO := hik (HO.out.keep KB.out)
          replace HC := hik (HC.out.keep KB.out)
          replace HX := hik (HX.out.keep KB.out)
          replace HG := hik (HG.out.trans KB.out)
          have hi1 : (ri : Int) < 64 := by omega
          have hciN : ((ci : Nat) : Int) < N := by omega
          go_upto_region 9 with fail
          clear c0 c1 c2
          generalize wi.alloc (.cells #[.int .i64 (ri : Int), .int .i64 (ci : Int), .int .i64 V.v.1] 79) = W0 at p0 p1 q0 q1 e0 e1 e2 HO HC HX HG KB ⊢
          have E1 := hik e1
          have E2 := hik e2
          clear KB e1 e2
          go_cut [13] (fun p W => ∃ g8 : Nat, p = .pointer (some ⟨g8, 0, none⟩) ∧ Hid (W0.heap.size ≤ g8) ∧ Hid (ElB W g8 (El.ml RK (A ri))) ∧ Hid (Chg nob W0 W))
          case first =>
            have KW := hik ((Chg.refl nob W0).drew1)
            have SA := hik (fun (WW : World) (kW : Chg nob W0 WW) => (show (WW.cell? ⟨wi.heap.size, 0, none⟩ = some (.int .i64 (ri : Int)) ∧ WW.cell? ⟨gC, 1 + ri * 2, none⟩ = some (.int .i64 (A ri).v.1) ∧ WW.cell? ⟨gC, 1 + ri * 2 + 1, none⟩ = some (.int .i64 (A ri).v.2) ∧ WW.cell? ⟨gW, k * 2, none⟩ = some (.int .i64 RK.v.1) ∧ WW.cell? ⟨gW, k * 2 + 1, none⟩ = some (.int .i64 RK.v.2)) from ⟨kW.see e0, kW.see p0, kW.see p1, kW.see q0, kW.see q1⟩))
            refine wp_region_held_drew (S := fun w' => w'.cell? ⟨wi.heap.size, 0, none⟩ = some (.int .i64 (ri : Int)) ∧ w'.cell? ⟨gC, 1 + ri * 2, none⟩ = some (.int .i64 (A ri).v.1) ∧ w'.cell? ⟨gC, 1 + ri * 2 + 1, none⟩ = some (.int .i64 (A ri).v.2) ∧ w'.cell? ⟨gW, k * 2, none⟩ = some (.int .i64 RK.v.1) ∧ w'.cell? ⟨gW, k * 2 + 1, none⟩ = some (.int .i64 RK.v.2)) (by kernel_rfl) ⟨e0, p0, p1, q0, q1⟩ (fun hHeld => ?_)
            refine wpAnyH_take (i := 0) (v := ?_) rfl (by kernel_rfl) (by kernel_rfl) (by kernel_rfl) (fun _ _ _ h => h) (Or.inl ⟨by rfl, ?_⟩) (by assumption) ?_
            rotate_left 1
            · (intro w' hSw; (try dsimp only at hSw); go_simp; try with_reducible rfl)
            try simp only [Act.put, List.setIfInBounds_toArray, List.set_cons_zero, List.set_cons_succ, List.getElem_toArray, List.getElem_cons_zero, List.getElem_cons_succ]
            refine wpAnyH_take (i := 1) (v := ?_) rfl (by kernel_rfl) (by kernel_rfl) (by kernel_rfl) (fun _ _ _ h => h) (Or.inl ⟨by rfl, ?_⟩) (by assumption) ?_
            rotate_left 1
            · (intro w' hSw; (try dsimp only at hSw); go_simp; try with_reducible rfl)
            try simp only [Act.put, List.setIfInBounds_toArray, List.set_cons_zero, List.set_cons_succ, List.getElem_toArray, List.getElem_cons_zero, List.getElem_cons_succ]
            refine wpAnyH_take (i := 2) (v := ?_) rfl (by kernel_rfl) (by kernel_rfl) (by kernel_rfl) (fun _ _ _ h => h) (Or.inl ⟨by rfl, ?_⟩) (by assumption) ?_
            rotate_left 1
            · (intro w' hSw; (try dsimp only at hSw); go_simp; try with_reducible rfl)
            try simp only [Act.put, List.setIfInBounds_toArray, List.set_cons_zero, List.set_cons_succ, List.getElem_toArray, List.getElem_cons_zero, List.getElem_cons_succ]
            refine wpAnyH_take (i := 3) (v := ?_) rfl (by kernel_rfl) (by kernel_rfl) (by kernel_rfl) (fun _ _ _ h => h) (Or.inl ⟨by rfl, ?_⟩) (by assumption) ?_
            rotate_left 1
            · (intro w' hSw; (try dsimp only at hSw); go_simp; try with_reducible rfl)
            try simp only [Act.put, List.setIfInBounds_toArray, List.set_cons_zero, List.set_cons_succ, List.getElem_toArray, List.getElem_cons_zero, List.getElem_cons_succ]
            refine wpAnyH_take (i := 4) (v := ?_) rfl (by kernel_rfl) (by kernel_rfl) (by kernel_rfl) (fun _ _ _ h => h) (Or.inl ⟨by rfl, ?_⟩) (by assumption) ?_
            rotate_left 1
            · (intro w' hSw; (try dsimp only at hSw); go_simp; try with_reducible rfl)
            try simp only [Act.put, List.setIfInBounds_toArray, List.set_cons_zero, List.set_cons_succ, List.getElem_toArray, List.getElem_cons_zero, List.getElem_cons_succ]
            refine wpAnyH_take (i := 5) (v := ?_) rfl (by kernel_rfl) (by kernel_rfl) (by kernel_rfl) (fun _ _ _ h => h) (Or.inl ⟨by rfl, ?_⟩) (by assumption) ?_
            rotate_left 1
            · (intro w' hSw; (try dsimp only at hSw); go_simp; try with_reducible rfl)
            try simp only [Act.put, List.setIfInBounds_toArray, List.set_cons_zero, List.set_cons_succ, List.getElem_toArray, List.getElem_cons_zero, List.getElem_cons_succ]
            refine wpAnyH_take (i := 6) (v := ?_) rfl (by kernel_rfl) (by kernel_rfl) (by kernel_rfl) (fun _ _ _ h => h) (Or.inl ⟨by rfl, ?_⟩) (by assumption) ?_
            rotate_left 1
            · (intro w' hSw; (try dsimp only at hSw); go_simp; try with_reducible rfl)
            try simp only [Act.put, List.setIfInBounds_toArray, List.set_cons_zero, List.set_cons_succ, List.getElem_toArray, List.getElem_cons_zero, List.getElem_cons_succ]
            refine wpAnyH_take (i := 7) (v := ?_) rfl (by kernel_rfl) (by kernel_rfl) (by kernel_rfl) (fun _ _ _ h => h) (Or.inl ⟨by rfl, ?_⟩) (by assumption) ?_
            rotate_left 1
            · (intro w' hSw; (try dsimp only at hSw); go_simp; try with_reducible rfl)
            try simp only [Act.put, List.setIfInBounds_toArray, List.set_cons_zero, List.set_cons_succ, List.getElem_toArray, List.getElem_cons_zero, List.getElem_cons_succ]
            refine wpAnyH_ready (rs := [8, 9]) (by kernel_rfl) (by simp) ?_
            refine AllReadyH.cons rfl (fun K hK => ?_) ?_
            · refine stepL_callN 37 #[.tmp 33, .tmp 38] #[42, 42] (by rfl) (by rfl) #[.agg #[.int .i64 RK.v.1, .int .i64 RK.v.2], .agg #[.int .i64 (A ri).v.1, .int .i64 (A ri).v.2]] (by simp only [List.map_toArray, List.map_cons, List.map_nil] <;> rfl) (run_go Tryz.func37 (by kernel_rfl) (by kernel_rfl) _ _) (ml_el RK (A ri) _) ?_
              rintro e U1 ⟨he, kk⟩
              refine ⟨_, he, ?_⟩
              replace KW := hik (KW.out.trans kk)
              refine hK.out _ _ (SA.out _ KW.out) (fun hHeld => ?_)
              clear hK K
              try simp only [Act.put, List.setIfInBounds_toArray, List.set_cons_zero, List.set_cons_succ, List.getElem_toArray, List.getElem_cons_zero, List.getElem_cons_succ]
              clear he kk
              refine wpAnyH_ready (rs := [9]) (by kernel_rfl) (by simp) ?_
              refine AllReadyH.cons rfl (fun K hK => ?_) AllReadyH.nil
              simp only [List.getElem_toArray, List.getElem_cons_zero, List.getElem_cons_succ]
              go_simp
              have E8 : Hid (ElB (World.alloc U1 (.cells #[.int .i64 0, .int .i64 0] 42)) U1.heap.size El.zr) := hik (ElB.zero U1)
              have lq : W0.heap.size ≤ U1.heap.size := KW.out.size
              replace KW : Hid (Chg nob W0 (World.alloc U1 (.cells #[.int .i64 0, .int .i64 0] 42))) := hik (KW.out.alloc _)
              generalize hUA : (World.alloc U1 (.cells #[.int .i64 0, .int .i64 0] 42)) = UA1 at E8 KW ⊢
              clear hUA
              obtain ⟨g8, hgA⟩ : ∃ g, g = U1.heap.size := ⟨_, rfl⟩
              have lg8 : W0.heap.size ≤ g8 := by rw [hgA]; exact lq
              clear lq
              rw [← hgA] at E8 ⊢
              clear hgA
              refine hK.out _ _ (SA.out _ KW.out) (fun hHeld => ?_)
              clear hK K
              try simp only [Act.put, List.setIfInBounds_toArray, List.set_cons_zero, List.set_cons_succ, List.getElem_toArray, List.getElem_cons_zero, List.getElem_cons_succ]
              refine wpAnyH_ready (rs := [10]) (by kernel_rfl) (by simp) ?_
              refine AllReadyH.cons rfl (fun K hK => ?_) AllReadyH.nil
              have z0 := E8.out.c0
              have z1 := E8.out.c1
              have f0 := E8.out.fz 0
              have f1 := E8.out.fz 1
              have l7 := E8.out.lt
              have SS := SA.out _ KW.out
              have hlA : gC < W0.heap.size := HC.out.lt
              have hlX : gW < W0.heap.size := HX.out.1
              have hlE : wi.heap.size < W0.heap.size := World.block_lt_of_cell? _ _ e0
              simp only [List.getElem_toArray, List.getElem_cons_zero, List.getElem_cons_succ]
              go_simp
              refine hK.out _ _ ⟨look_two (by omega) (SS.1) 0 1 _ _, look_two (by omega) (SS.2.1) 0 1 _ _, look_two (by omega) (SS.2.2.1) 0 1 _ _, look_two (by omega) (SS.2.2.2.1) 0 1 _ _, look_two (by omega) (SS.2.2.2.2) 0 1 _ _⟩ (fun hHeld => ?_)
              clear hK K
              try simp only [Act.put, List.setIfInBounds_toArray, List.set_cons_zero, List.set_cons_succ, List.getElem_toArray, List.getElem_cons_zero, List.getElem_cons_succ]
              clear z0 z1 f0 f1 l7 SS
              replace E8 := hik (E8.out.set (El.ml RK (A ri)))
              replace KW := hik (chg2_at KW.out g8 (fun l => absurd l (by omega)) 0 1 (.int .i64 (El.ml RK (A ri)).v.1) (.int .i64 (El.ml RK (A ri)).v.2))
              generalize hUS : ((UA1.setCell ⟨g8, 0, none⟩ (.int .i64 (El.ml RK (A ri)).v.1)).setCell ⟨g8, 1, none⟩ (.int .i64 (El.ml RK (A ri)).v.2)) = US1 at E8 KW hHeld ⊢
              clear hUS
              refine wpAnyH_done (by kernel_rfl) ?_ _
              go_wp2_with fail
              go_meet
              exact ⟨g8, rfl, hik lg8, E8, KW⟩
            · refine AllReadyH.cons rfl (fun K hK => ?_) AllReadyH.nil
              simp only [List.getElem_toArray, List.getElem_cons_zero, List.getElem_cons_succ]
              go_simp
              have E8 : Hid (ElB (World.alloc W0 (.cells #[.int .i64 0, .int .i64 0] 42)).drew W0.heap.size El.zr) := hik (ElB.keep (ElB.zero W0) (Chg.refl nob _).drew1)
              have lq : W0.heap.size ≤ W0.heap.size := Nat.le_refl _
              replace KW : Hid (Chg nob W0 (World.alloc W0 (.cells #[.int .i64 0, .int .i64 0] 42)).drew) := hik (((Chg.refl nob W0).alloc _).drew1)
              generalize hUA : (World.alloc W0 (.cells #[.int .i64 0, .int .i64 0] 42)).drew = UA1 at E8 KW ⊢
              clear hUA
              obtain ⟨g8, hgA⟩ : ∃ g, g = W0.heap.size := ⟨_, rfl⟩
              have lg8 : W0.heap.size ≤ g8 := by rw [hgA]; exact lq
              clear lq
              rw [← hgA] at E8 ⊢
              clear hgA
              refine hK.out _ _ (SA.out _ KW.out) (fun hHeld => ?_)
              clear hK K
              try simp only [Act.put, List.setIfInBounds_toArray, List.set_cons_zero, List.set_cons_succ, List.getElem_toArray, List.getElem_cons_zero, List.getElem_cons_succ]
              refine wpAnyH_ready (rs := [8]) (by kernel_rfl) (by simp) ?_
              refine AllReadyH.cons rfl (fun K hK => ?_) AllReadyH.nil
              refine stepL_callN 37 #[.tmp 33, .tmp 38] #[42, 42] (by rfl) (by rfl) #[.agg #[.int .i64 RK.v.1, .int .i64 RK.v.2], .agg #[.int .i64 (A ri).v.1, .int .i64 (A ri).v.2]] (by simp only [List.map_toArray, List.map_cons, List.map_nil] <;> rfl) (run_go Tryz.func37 (by kernel_rfl) (by kernel_rfl) _ _) (ml_el RK (A ri) _) ?_
              rintro e U1 ⟨he, kk⟩
              replace E8 := hik (E8.out.keep kk)
              refine ⟨_, he, ?_⟩
              replace KW := hik (KW.out.trans kk)
              refine hK.out _ _ (SA.out _ KW.out) (fun hHeld => ?_)
              clear hK K
              try simp only [Act.put, List.setIfInBounds_toArray, List.set_cons_zero, List.set_cons_succ, List.getElem_toArray, List.getElem_cons_zero, List.getElem_cons_succ]
              clear he kk
              refine wpAnyH_ready (rs := [10]) (by kernel_rfl) (by simp) ?_
              refine AllReadyH.cons rfl (fun K hK => ?_) AllReadyH.nil
              have z0 := E8.out.c0
              have z1 := E8.out.c1
              have f0 := E8.out.fz 0
              have f1 := E8.out.fz 1
              have l7 := E8.out.lt
              have SS := SA.out _ KW.out
              have hlA : gC < W0.heap.size := HC.out.lt
              have hlX : gW < W0.heap.size := HX.out.1
              have hlE : wi.heap.size < W0.heap.size := World.block_lt_of_cell? _ _ e0
              simp only [List.getElem_toArray, List.getElem_cons_zero, List.getElem_cons_succ]
              go_simp
              refine hK.out _ _ ⟨look_two (by omega) (SS.1) 0 1 _ _, look_two (by omega) (SS.2.1) 0 1 _ _, look_two (by omega) (SS.2.2.1) 0 1 _ _, look_two (by omega) (SS.2.2.2.1) 0 1 _ _, look_two (by omega) (SS.2.2.2.2) 0 1 _ _⟩ (fun hHeld => ?_)
              clear hK K
              try simp only [Act.put, List.setIfInBounds_toArray, List.set_cons_zero, List.set_cons_succ, List.getElem_toArray, List.getElem_cons_zero, List.getElem_cons_succ]
              clear z0 z1 f0 f1 l7 SS
              replace E8 := hik (E8.out.set (El.ml RK (A ri)))
              replace KW := hik (chg2_at KW.out g8 (fun l => absurd l (by omega)) 0 1 (.int .i64 (El.ml RK (A ri)).v.1) (.int .i64 (El.ml RK (A ri)).v.2))
              generalize hUS : ((U1.setCell ⟨g8, 0, none⟩ (.int .i64 (El.ml RK (A ri)).v.1)).setCell ⟨g8, 1, none⟩ (.int .i64 (El.ml RK (A ri)).v.2)) = US1 at E8 KW hHeld ⊢
              clear hUS
              refine wpAnyH_done (by kernel_rfl) ?_ _
              go_wp2_with fail
              go_meet
              exact ⟨g8, rfl, hik lg8, E8, KW⟩
          case rest =>
            obtain ⟨g8, rfl, HL8, E8, KC⟩ := hcut
            rename World => W6
            clear p0 p1 q0 q1 e0
            have hl8 := HL8.out
            have hlO : gO < W0.heap.size := HO.out.lt
            replace HO := hik (HO.out.keep KC.out)
            replace HC := hik (HC.out.keep KC.out)
            replace HX := hik (HX.out.keep KC.out)
            replace HG := hik (HG.out.trans KC.out)
            have e1 := KC.out.see E1.out
            have e2 := KC.out.see E2.out
            have s0 := HO.out.c0 hci
            have s1 := HO.out.c1 hci
            have r0 := E8.out.c0
            have r1 := E8.out.c1
            clear KC HL8 E1 E2
            go_upto_region 10 with fail
            have KW := hik ((Chg.refl nob W6).drew1)
            have SA := hik (fun (WW : World) (kW : Chg nob W6 WW) => (show (WW.cell? ⟨gO, ci * 2, none⟩ = some (.int .i64 (TT ci).v.1) ∧ WW.cell? ⟨gO, ci * 2 + 1, none⟩ = some (.int .i64 (TT ci).v.2) ∧ WW.cell? ⟨g8, 0, none⟩ = some (.int .i64 (El.ml RK (A ri)).v.1) ∧ WW.cell? ⟨g8, 1, none⟩ = some (.int .i64 (El.ml RK (A ri)).v.2) ∧ WW.cell? ⟨wi.heap.size, 1, none⟩ = some (.int .i64 (ci : Int)) ∧ WW.cell? ⟨wi.heap.size, 2, none⟩ = some (.int .i64 V.v.1)) from ⟨kW.see s0, kW.see s1, kW.see r0, kW.see r1, kW.see e1, kW.see e2⟩))
            refine wp_regionL (L := 15) (S := fun w' => w'.cell? ⟨gO, ci * 2, none⟩ = some (.int .i64 (TT ci).v.1) ∧ w'.cell? ⟨gO, ci * 2 + 1, none⟩ = some (.int .i64 (TT ci).v.2) ∧ w'.cell? ⟨g8, 0, none⟩ = some (.int .i64 (El.ml RK (A ri)).v.1) ∧ w'.cell? ⟨g8, 1, none⟩ = some (.int .i64 (El.ml RK (A ri)).v.2) ∧ w'.cell? ⟨wi.heap.size, 1, none⟩ = some (.int .i64 (ci : Int)) ∧ w'.cell? ⟨wi.heap.size, 2, none⟩ = some (.int .i64 V.v.1)) (by kernel_rfl) ⟨s0, s1, r0, r1, e1, e2⟩ (fun hHeld => ?_)
            refine wpAnyL_take (i := 0) (v := ?_) rfl (by kernel_rfl) (by kernel_rfl) (by kernel_rfl) (fun _ _ _ h => h) (by rfl) (by kernel_rfl) (by kernel_rfl) (Or.inl ⟨by rfl, ?_⟩) (by assumption) ?_
            rotate_left 1
            · (intro w' hSw; (try dsimp only at hSw); go_simp; try with_reducible rfl)
            try simp only [Act.put, List.setIfInBounds_toArray, List.set_cons_zero, List.set_cons_succ, List.getElem_toArray, List.getElem_cons_zero, List.getElem_cons_succ]
            refine wpAnyL_take (i := 1) (v := ?_) rfl (by kernel_rfl) (by kernel_rfl) (by kernel_rfl) (fun _ _ _ h => h) (by rfl) (by kernel_rfl) (by kernel_rfl) (Or.inl ⟨by rfl, ?_⟩) (by assumption) ?_
            rotate_left 1
            · (intro w' hSw; (try dsimp only at hSw); go_simp; try with_reducible rfl)
            try simp only [Act.put, List.setIfInBounds_toArray, List.set_cons_zero, List.set_cons_succ, List.getElem_toArray, List.getElem_cons_zero, List.getElem_cons_succ]
            refine wpAnyL_take (i := 2) (v := ?_) rfl (by kernel_rfl) (by kernel_rfl) (by kernel_rfl) (fun _ _ _ h => h) (by rfl) (by kernel_rfl) (by kernel_rfl) (Or.inl ⟨by rfl, ?_⟩) (by assumption) ?_
            rotate_left 1
            · (intro w' hSw; (try dsimp only at hSw); go_simp; try with_reducible rfl)
            try simp only [Act.put, List.setIfInBounds_toArray, List.set_cons_zero, List.set_cons_succ, List.getElem_toArray, List.getElem_cons_zero, List.getElem_cons_succ]
            refine wpAnyL_take (i := 3) (v := ?_) rfl (by kernel_rfl) (by kernel_rfl) (by kernel_rfl) (fun _ _ _ h => h) (by rfl) (by kernel_rfl) (by kernel_rfl) (Or.inl ⟨by rfl, ?_⟩) (by assumption) ?_
            rotate_left 1
            · (intro w' hSw; (try dsimp only at hSw); go_simp; try with_reducible rfl)
            try simp only [Act.put, List.setIfInBounds_toArray, List.set_cons_zero, List.set_cons_succ, List.getElem_toArray, List.getElem_cons_zero, List.getElem_cons_succ]
            refine wpAnyL_take (i := 4) (v := ?_) rfl (by kernel_rfl) (by kernel_rfl) (by kernel_rfl) (fun _ _ _ h => h) (by rfl) (by kernel_rfl) (by kernel_rfl) (Or.inl ⟨by rfl, ?_⟩) (by assumption) ?_
            rotate_left 1
            · (intro w' hSw; (try dsimp only at hSw); go_simp; try with_reducible rfl)
            try simp only [Act.put, List.setIfInBounds_toArray, List.set_cons_zero, List.set_cons_succ, List.getElem_toArray, List.getElem_cons_zero, List.getElem_cons_succ]
            refine wpAnyL_take (i := 5) (v := ?_) rfl (by kernel_rfl) (by kernel_rfl) (by kernel_rfl) (fun _ _ _ h => h) (by rfl) (by kernel_rfl) (by kernel_rfl) (Or.inl ⟨by rfl, ?_⟩) (by assumption) ?_
            rotate_left 1
            · (intro w' hSw; (try dsimp only at hSw); go_simp; try with_reducible rfl)
            try simp only [Act.put, List.setIfInBounds_toArray, List.set_cons_zero, List.set_cons_succ, List.getElem_toArray, List.getElem_cons_zero, List.getElem_cons_succ]
            refine wpAnyL_take (i := 6) (v := ?_) rfl (by kernel_rfl) (by kernel_rfl) (by kernel_rfl) (fun _ _ _ h => h) (by rfl) (by kernel_rfl) (by kernel_rfl) (Or.inl ⟨by rfl, ?_⟩) (by assumption) ?_
            rotate_left 1
            · (intro w' hSw; (try dsimp only at hSw); go_simp; try with_reducible rfl)
            try simp only [Act.put, List.setIfInBounds_toArray, List.set_cons_zero, List.set_cons_succ, List.getElem_toArray, List.getElem_cons_zero, List.getElem_cons_succ]
            refine wpAnyL_take (i := 7) (v := ?_) rfl (by kernel_rfl) (by kernel_rfl) (by kernel_rfl) (fun _ _ _ h => h) (by rfl) (by kernel_rfl) (by kernel_rfl) (Or.inl ⟨by rfl, ?_⟩) (by assumption) ?_
            rotate_left 1
            · (intro w' hSw; (try dsimp only at hSw); go_simp; try with_reducible rfl)
            try simp only [Act.put, List.setIfInBounds_toArray, List.set_cons_zero, List.set_cons_succ, List.getElem_toArray, List.getElem_cons_zero, List.getElem_cons_succ]
            refine wpAnyL_take (i := 8) (v := ?_) rfl (by kernel_rfl) (by kernel_rfl) (by kernel_rfl) (fun _ _ _ h => h) (by rfl) (by kernel_rfl) (by kernel_rfl) (Or.inl ⟨by rfl, ?_⟩) (by assumption) ?_
            rotate_left 1
            · (intro w' hSw; (try dsimp only at hSw); go_simp; try with_reducible rfl)
            try simp only [Act.put, List.setIfInBounds_toArray, List.set_cons_zero, List.set_cons_succ, List.getElem_toArray, List.getElem_cons_zero, List.getElem_cons_succ]
            refine wpAnyL_take (i := 9) (v := ?_) rfl (by kernel_rfl) (by kernel_rfl) (by kernel_rfl) (fun _ _ _ h => h) (by rfl) (by kernel_rfl) (by kernel_rfl) (Or.inl ⟨by rfl, ?_⟩) (by assumption) ?_
            rotate_left 1
            · (intro w' hSw; (try dsimp only at hSw); go_simp; try with_reducible rfl)
            try simp only [Act.put, List.setIfInBounds_toArray, List.set_cons_zero, List.set_cons_succ, List.getElem_toArray, List.getElem_cons_zero, List.getElem_cons_succ]
            refine wpAnyL_take (i := 10) (v := ?_) rfl (by kernel_rfl) (by kernel_rfl) (by kernel_rfl) (fun _ _ _ h => h) (by rfl) (by kernel_rfl) (by kernel_rfl) (Or.inl ⟨by rfl, ?_⟩) (by assumption) ?_
            rotate_left 1
            · (intro w' hSw; (try dsimp only at hSw); go_simp; try with_reducible rfl)
            try simp only [Act.put, List.setIfInBounds_toArray, List.set_cons_zero, List.set_cons_succ, List.getElem_toArray, List.getElem_cons_zero, List.getElem_cons_succ]
            refine wpAnyL_take (i := 11) (v := ?_) rfl (by kernel_rfl) (by kernel_rfl) (by kernel_rfl) (fun _ _ _ h => h) (by rfl) (by kernel_rfl) (by kernel_rfl) (Or.inl ⟨by rfl, ?_⟩) (by assumption) ?_
            rotate_left 1
            · (intro w' hSw; (try dsimp only at hSw); go_simp; try with_reducible rfl)
            try simp only [Act.put, List.setIfInBounds_toArray, List.set_cons_zero, List.set_cons_succ, List.getElem_toArray, List.getElem_cons_zero, List.getElem_cons_succ]
            refine wpAnyL_ready (rs := [12]) (by kernel_rfl) (by simp) ?_
            refine AllReadyL.cons rfl (fun K hK => ?_) AllReadyL.nil
            refine stepL_callN 37 #[.tmp 48, .tmp 51] #[42, 42] (by rfl) (by rfl) #[.agg #[.int .i64 (El.ml RK (A ri)).v.1, .int .i64 (El.ml RK (A ri)).v.2], .agg #[.int .i64 V.v.1, .int .i64 0]] (by simp only [List.map_toArray, List.map_cons, List.map_nil] <;> rfl) (run_go Tryz.func37 (by kernel_rfl) (by kernel_rfl) _ _) (hml _) ?_
            rintro e U1 ⟨he, kk⟩
            refine ⟨_, he, ?_⟩
            replace KW := hik (KW.out.trans kk)
            refine hK.out _ _ (SA.out _ KW.out) (fun hHeld => ?_)
            clear hK K
            try simp only [Act.put, List.setIfInBounds_toArray, List.set_cons_zero, List.set_cons_succ, List.getElem_toArray, List.getElem_cons_zero, List.getElem_cons_succ]
            clear he kk
            refine wpAnyL_ready (rs := [13]) (by kernel_rfl) (by simp) ?_
            refine AllReadyL.cons rfl (fun K hK => ?_) AllReadyL.nil
            refine stepL_callN 38 #[.tmp 47, .tmp 52] #[42, 42] (by rfl) (by rfl) #[.agg #[.int .i64 (TT ci).v.1, .int .i64 (TT ci).v.2], .agg #[.int .i64 (El.ml (El.ml RK (A ri)) V).v.1, .int .i64 (El.ml (El.ml RK (A ri)) V).v.2]] (by simp only [List.map_toArray, List.map_cons, List.map_nil] <;> rfl) (run_go Tryz.func38 (by kernel_rfl) (by kernel_rfl) _ _) (ad_el (TT ci) (El.ml (El.ml RK (A ri)) V) _) ?_
            rintro e U2 ⟨he, kk⟩
            refine ⟨_, he, ?_⟩
            replace KW := hik (KW.out.trans kk)
            refine hK.out _ _ (SA.out _ KW.out) (fun hHeld => ?_)
            clear hK K
            try simp only [Act.put, List.setIfInBounds_toArray, List.set_cons_zero, List.set_cons_succ, List.getElem_toArray, List.getElem_cons_zero, List.getElem_cons_succ]
            clear he kk
            refine wpAnyL_take (i := 14) (v := ?_) rfl (by kernel_rfl) (by kernel_rfl) (by kernel_rfl) (fun _ _ _ h => h) (by rfl) (by kernel_rfl) (by kernel_rfl) (Or.inl ⟨by rfl, ?_⟩) (by assumption) ?_
            rotate_left 1
            · (intro w' hSw; (try dsimp only at hSw); go_simp; try with_reducible rfl)
            try simp only [Act.put, List.setIfInBounds_toArray, List.set_cons_zero, List.set_cons_succ, List.getElem_toArray, List.getElem_cons_zero, List.getElem_cons_succ]
            refine wpAnyL_ready (rs := [15]) (by kernel_rfl) (by simp) ?_
            refine AllReadyL.last rfl (by kernel_rfl) (fun K hK => ?_)
            have EN := hik (HO.out.keep KW.out)
            have g0 := EN.out.c0 hci
            have g1 := EN.out.c1 hci
            have f0 := World.rowIs.frozen EN.out (ci * 2)
            have f1 := World.rowIs.frozen EN.out (ci * 2 + 1)
            have ln : gO < U2.heap.size := EN.out.lt
            simp only [List.getElem_toArray, List.getElem_cons_zero, List.getElem_cons_succ]
            go_simp
            refine hK.out _ _ ?_
            clear hK K
            try simp only [Act.put, List.setIfInBounds_toArray, List.set_cons_zero, List.set_cons_succ, List.getElem_toArray, List.getElem_cons_zero, List.getElem_cons_succ]
            clear g0 g1 f0 f1 ln
            refine wpAnyL_done (by kernel_rfl) ?_ _
            have O2 : Hid (RowE _ gO N (btE A RK X TK (j + 1))) := hik ((EN.out.set ci (El.ad (TT ci) (El.ml (El.ml RK (A ri)) V))).congr (fun z _ => (HST.out z).symm))
            have A2 := hik (Cub.other (HC.out.keep KW.out) (g := gO) (by omega) (ci * 2) (ci * 2 + 1) (.int .i64 (El.ad (TT ci) (El.ml (El.ml RK (A ri)) V)).v.1) (.int .i64 (El.ad (TT ci) (El.ml (El.ml RK (A ri)) V)).v.2))
            have L2 := hik (Wt3.other (HX.out.keep KW.out) (b := gO) (by omega) (ci * 2) (ci * 2 + 1) (.int .i64 (El.ad (TT ci) (El.ml (El.ml RK (A ri)) V)).v.1) (.int .i64 (El.ad (TT ci) (El.ml (El.ml RK (A ri)) V)).v.2))
            have G2 := hik (chg2_at (HG.out.trans KW.out) gO (fun l => absurd l (by omega)) (ci * 2) (ci * 2 + 1) (.int .i64 (El.ad (TT ci) (El.ml (El.ml RK (A ri)) V)).v.1) (.int .i64 (El.ad (TT ci) (El.ml (El.ml RK (A ri)) V)).v.2))
            generalize hE : ((U2.setCell ⟨gO, ci * 2, none⟩ (.int .i64 (El.ad (TT ci) (El.ml (El.ml RK (A ri)) V)).v.1)).setCell ⟨gO, ci * 2 + 1, none⟩ (.int .i64 (El.ad (TT ci) (El.ml (El.ml RK (A ri)) V)).v.2)) = W7 at O2 A2 L2 G2 ⊢
            clear hE EN KW SA hHeld e1 e2 s0 s1 r0 r1 HO HC HX HG
            go_wp2
            go_roundw
            case rel => exact ⟨j + 1, by omega, by go_num, O2, A2, L2, G2⟩
            case measure => simp [intOf]; omega
        · obtain rfl : nK = j := by omega
          go_wp2
          go_roundw
          case rel => exact ⟨k + 1, by omega, by go_num, hik (by rw [HNX.out]; exact HO.out), HC, HX, HG⟩
          case measure => simp [intOf]; omega
    · obtain rfl : k = 3 := by omega
      go_wp2
      go_ret
      exact ⟨gO, rfl, hlo, HO.out.congr (fun i _ => HBT.out A HA.out 3 i), HG.out⟩

end Go.Proofs.YtmnhhjblhildnaaGreatDoor

namespace Go.Proofs.YtmnhhjblhildnaaGreatDoor
open Go.ChangeShapes Go.WideShapes Go.ChangeAt Go.RowKit
set_option linter.unusedVariables false
set_option maxRecDepth 100000
set_option linter.unusedSimpArgs false


end Go.Proofs.YtmnhhjblhildnaaGreatDoor

namespace Go.Proofs.YtmnhhjblhildnaaGreatDoor
open Go.ChangeShapes Go.WideShapes Go.ChangeAt Go.RowKit
set_option linter.unusedVariables false
set_option maxRecDepth 100000
set_option linter.unusedSimpArgs false

theorem rowNn (W : World) (n : Nat) (a : Array Value) (t : TypeId) (h : a.size = n) : (W.alloc (.cells a t)).rowIs W.heap.size t n (fun i => a.getD i undef) := by
  subst h
  exact W.rowIs_alloc a t _ (fun i hi => by simp [hi])

/-- Rows of one's own as a system's lists. -/
theorem SyV.rows {w : World} {s : Sy} {bA bB bC pA pB pC : Nat} (hA : w.rowIs bA 79 (s.nA * 3) (tf s.XA)) (hB : w.rowIs bB 79 (s.nB * 3) (tf s.XB)) (hC : w.rowIs bC 79 (s.nC * 3) (tf s.XC)) : SyV w s ⟨some ⟨bA, 0, none⟩, some ⟨bB, 0, none⟩, some ⟨bC, 0, none⟩, pA, pB, pC⟩ :=
  ⟨EntV.of_row hA (Nat.le_refl _) (fun _ _ => rfl), EntV.of_row hB (Nat.le_refl _) (fun _ _ => rfl), EntV.of_row hC (Nat.le_refl _) (fun _ _ => rfl)⟩

end Go.Proofs.YtmnhhjblhildnaaGreatDoor

namespace Go.Proofs.YtmnhhjblhildnaaGreatDoor
open Go.ChangeShapes Go.WideShapes Go.ChangeAt Go.RowKit
set_option linter.unusedVariables false
set_option maxRecDepth 100000
set_option linter.unusedSimpArgs false

theorem pairs3r {W : World} {g : Nat} {t : TypeId} {a2 b2 a3 b3 a4 b4 : Int} (h : W.rowIs g t 6 (fun i => (#[.int .i64 a2, .int .i64 b2, .int .i64 a3, .int .i64 b3, .int .i64 a4, .int .i64 b4] : Array Value).getD i undef)) : PairV W (some ⟨g, 0, none⟩) 3 (pk3 a2 a3 a4) (pk3 b2 b3 b4) := by
  intro i hi
  refine ⟨g, 0, rfl, h.lt, ?_, ?_⟩ <;> (rw [Nat.zero_add, h.cell (by omega)]; rcases (show i = 0 ∨ i = 1 ∨ i = 2 by omega) with rfl | rfl | rfl <;> simp [pk3])

set_option maxHeartbeats 4000000 in
theorem boundX_any (s : Sy) (a : SyA) (cx : Option Addr) (n capx : Nat) (f g : Nat → Int) (a2 b2 a3 b3 a4 b4 : Int) (w : World) (hv : Hid (SyV w s a)) (hs : s.small) (hp : Hid (PairV w cx n f g)) (hn : n ≤ 1099511627776) :
    Calls Tryz.prog 11 #[.agg #[.int .i64 s.r, .int .i64 s.q, .int .i64 s.p, .slice a.cA s.nA a.pA, .slice a.cB s.nB a.pB, .slice a.cC s.nC a.pC], .slice cx n capx, .agg #[.int .i64 a2, .int .i64 b2], .agg #[.int .i64 a3, .int .i64 b3], .agg #[.int .i64 a4, .int .i64 b4]] w fun e w' => TbC w (bdc s n f g (pk3 a2 a3 a4) (pk3 b2 b3 b4)) (bdn s n f g (pk3 a2 a3 a4) (pk3 b2 b3 b4)) (bdv s n f g (pk3 a2 a3 a4) (pk3 b2 b3 b4)) e w' := by
  by_cases h1 : 4096 < n
  · have h1' : (4096 : Int) < n := by omega
    have HC := hik (show bdc s n f g (pk3 a2 a3 a4) (pk3 b2 b3 b4) = 2 by simp [bdc, h1])
    have HM := hik (show bdn s n f g (pk3 a2 a3 a4) (pk3 b2 b3 b4) = 0 by unfold bdn; rw [HC.out]; rfl)
    have KB := hik (((((Chg.refl nob w).alloc (.cells #[.int .i64 s.r, .int .i64 s.q, .int .i64 s.p, .slice a.cA s.nA a.pA, .slice a.cB s.nB a.pB, .slice a.cC s.nC a.pC] 25)).alloc (.cells #[.int .i64 a2, .int .i64 b2] 42)).alloc (.cells #[.int .i64 a3, .int .i64 b3] 42)).alloc (.cells #[.int .i64 a4, .int .i64 b4] 42))
    have x0 : World.cell? ((((w.alloc (.cells #[.int .i64 s.r, .int .i64 s.q, .int .i64 s.p, .slice a.cA s.nA a.pA, .slice a.cB s.nB a.pB, .slice a.cC s.nC a.pC] 25)).alloc (.cells #[.int .i64 a2, .int .i64 b2] 42)).alloc (.cells #[.int .i64 a3, .int .i64 b3] 42)).alloc (.cells #[.int .i64 a4, .int .i64 b4] 42)) ⟨w.heap.size, 0, none⟩ = some (.int .i64 s.r) := by go_simp
    have x1 : World.cell? ((((w.alloc (.cells #[.int .i64 s.r, .int .i64 s.q, .int .i64 s.p, .slice a.cA s.nA a.pA, .slice a.cB s.nB a.pB, .slice a.cC s.nC a.pC] 25)).alloc (.cells #[.int .i64 a2, .int .i64 b2] 42)).alloc (.cells #[.int .i64 a3, .int .i64 b3] 42)).alloc (.cells #[.int .i64 a4, .int .i64 b4] 42)) ⟨w.heap.size, 1, none⟩ = some (.int .i64 s.q) := by go_simp
    have x2 : World.cell? ((((w.alloc (.cells #[.int .i64 s.r, .int .i64 s.q, .int .i64 s.p, .slice a.cA s.nA a.pA, .slice a.cB s.nB a.pB, .slice a.cC s.nC a.pC] 25)).alloc (.cells #[.int .i64 a2, .int .i64 b2] 42)).alloc (.cells #[.int .i64 a3, .int .i64 b3] 42)).alloc (.cells #[.int .i64 a4, .int .i64 b4] 42)) ⟨w.heap.size, 2, none⟩ = some (.int .i64 s.p) := by go_simp
    have x3 : World.cell? ((((w.alloc (.cells #[.int .i64 s.r, .int .i64 s.q, .int .i64 s.p, .slice a.cA s.nA a.pA, .slice a.cB s.nB a.pB, .slice a.cC s.nC a.pC] 25)).alloc (.cells #[.int .i64 a2, .int .i64 b2] 42)).alloc (.cells #[.int .i64 a3, .int .i64 b3] 42)).alloc (.cells #[.int .i64 a4, .int .i64 b4] 42)) ⟨w.heap.size, 3, none⟩ = some (.slice a.cA s.nA a.pA) := by go_simp
    have x4 : World.cell? ((((w.alloc (.cells #[.int .i64 s.r, .int .i64 s.q, .int .i64 s.p, .slice a.cA s.nA a.pA, .slice a.cB s.nB a.pB, .slice a.cC s.nC a.pC] 25)).alloc (.cells #[.int .i64 a2, .int .i64 b2] 42)).alloc (.cells #[.int .i64 a3, .int .i64 b3] 42)).alloc (.cells #[.int .i64 a4, .int .i64 b4] 42)) ⟨w.heap.size, 4, none⟩ = some (.slice a.cB s.nB a.pB) := by go_simp
    have x5 : World.cell? ((((w.alloc (.cells #[.int .i64 s.r, .int .i64 s.q, .int .i64 s.p, .slice a.cA s.nA a.pA, .slice a.cB s.nB a.pB, .slice a.cC s.nC a.pC] 25)).alloc (.cells #[.int .i64 a2, .int .i64 b2] 42)).alloc (.cells #[.int .i64 a3, .int .i64 b3] 42)).alloc (.cells #[.int .i64 a4, .int .i64 b4] 42)) ⟨w.heap.size, 5, none⟩ = some (.slice a.cC s.nC a.pC) := by go_simp
    have p0 : World.cell? ((((w.alloc (.cells #[.int .i64 s.r, .int .i64 s.q, .int .i64 s.p, .slice a.cA s.nA a.pA, .slice a.cB s.nB a.pB, .slice a.cC s.nC a.pC] 25)).alloc (.cells #[.int .i64 a2, .int .i64 b2] 42)).alloc (.cells #[.int .i64 a3, .int .i64 b3] 42)).alloc (.cells #[.int .i64 a4, .int .i64 b4] 42)) ⟨w.heap.size + 1, 0, none⟩ = some (.int .i64 a2) := by go_simp
    have p1 : World.cell? ((((w.alloc (.cells #[.int .i64 s.r, .int .i64 s.q, .int .i64 s.p, .slice a.cA s.nA a.pA, .slice a.cB s.nB a.pB, .slice a.cC s.nC a.pC] 25)).alloc (.cells #[.int .i64 a2, .int .i64 b2] 42)).alloc (.cells #[.int .i64 a3, .int .i64 b3] 42)).alloc (.cells #[.int .i64 a4, .int .i64 b4] 42)) ⟨w.heap.size + 1, 1, none⟩ = some (.int .i64 b2) := by go_simp
    have q0 : World.cell? ((((w.alloc (.cells #[.int .i64 s.r, .int .i64 s.q, .int .i64 s.p, .slice a.cA s.nA a.pA, .slice a.cB s.nB a.pB, .slice a.cC s.nC a.pC] 25)).alloc (.cells #[.int .i64 a2, .int .i64 b2] 42)).alloc (.cells #[.int .i64 a3, .int .i64 b3] 42)).alloc (.cells #[.int .i64 a4, .int .i64 b4] 42)) ⟨w.heap.size + 2, 0, none⟩ = some (.int .i64 a3) := by go_simp
    have q1 : World.cell? ((((w.alloc (.cells #[.int .i64 s.r, .int .i64 s.q, .int .i64 s.p, .slice a.cA s.nA a.pA, .slice a.cB s.nB a.pB, .slice a.cC s.nC a.pC] 25)).alloc (.cells #[.int .i64 a2, .int .i64 b2] 42)).alloc (.cells #[.int .i64 a3, .int .i64 b3] 42)).alloc (.cells #[.int .i64 a4, .int .i64 b4] 42)) ⟨w.heap.size + 2, 1, none⟩ = some (.int .i64 b3) := by go_simp
    have r0 : World.cell? ((((w.alloc (.cells #[.int .i64 s.r, .int .i64 s.q, .int .i64 s.p, .slice a.cA s.nA a.pA, .slice a.cB s.nB a.pB, .slice a.cC s.nC a.pC] 25)).alloc (.cells #[.int .i64 a2, .int .i64 b2] 42)).alloc (.cells #[.int .i64 a3, .int .i64 b3] 42)).alloc (.cells #[.int .i64 a4, .int .i64 b4] 42)) ⟨w.heap.size + 3, 0, none⟩ = some (.int .i64 a4) := by go_simp
    have r1 : World.cell? ((((w.alloc (.cells #[.int .i64 s.r, .int .i64 s.q, .int .i64 s.p, .slice a.cA s.nA a.pA, .slice a.cB s.nB a.pB, .slice a.cC s.nC a.pC] 25)).alloc (.cells #[.int .i64 a2, .int .i64 b2] 42)).alloc (.cells #[.int .i64 a3, .int .i64 b3] 42)).alloc (.cells #[.int .i64 a4, .int .i64 b4] 42)) ⟨w.heap.size + 3, 1, none⟩ = some (.int .i64 b4) := by go_simp
    have BX := hik (cel6 x0 x1 x2 x3 x4 x5)
    go_enter Tryz.func11, Tryz.ntmps11
    go_upto_region 1 with fail
    have EX := hik (show (World.cell? (((((w.alloc (.cells #[.int .i64 s.r, .int .i64 s.q, .int .i64 s.p, .slice a.cA s.nA a.pA, .slice a.cB s.nB a.pB, .slice a.cC s.nC a.pC] 25)).alloc (.cells #[.int .i64 a2, .int .i64 b2] 42)).alloc (.cells #[.int .i64 a3, .int .i64 b3] 42)).alloc (.cells #[.int .i64 a4, .int .i64 b4] 42))) ⟨w.heap.size + 1, 0, none⟩ = some (.int .i64 a2) ∧ World.cell? (((((w.alloc (.cells #[.int .i64 s.r, .int .i64 s.q, .int .i64 s.p, .slice a.cA s.nA a.pA, .slice a.cB s.nB a.pB, .slice a.cC s.nC a.pC] 25)).alloc (.cells #[.int .i64 a2, .int .i64 b2] 42)).alloc (.cells #[.int .i64 a3, .int .i64 b3] 42)).alloc (.cells #[.int .i64 a4, .int .i64 b4] 42))) ⟨w.heap.size + 1, 1, none⟩ = some (.int .i64 b2) ∧ World.cell? (((((w.alloc (.cells #[.int .i64 s.r, .int .i64 s.q, .int .i64 s.p, .slice a.cA s.nA a.pA, .slice a.cB s.nB a.pB, .slice a.cC s.nC a.pC] 25)).alloc (.cells #[.int .i64 a2, .int .i64 b2] 42)).alloc (.cells #[.int .i64 a3, .int .i64 b3] 42)).alloc (.cells #[.int .i64 a4, .int .i64 b4] 42))) ⟨w.heap.size + 2, 0, none⟩ = some (.int .i64 a3) ∧ World.cell? (((((w.alloc (.cells #[.int .i64 s.r, .int .i64 s.q, .int .i64 s.p, .slice a.cA s.nA a.pA, .slice a.cB s.nB a.pB, .slice a.cC s.nC a.pC] 25)).alloc (.cells #[.int .i64 a2, .int .i64 b2] 42)).alloc (.cells #[.int .i64 a3, .int .i64 b3] 42)).alloc (.cells #[.int .i64 a4, .int .i64 b4] 42))) ⟨w.heap.size + 2, 1, none⟩ = some (.int .i64 b3) ∧ World.cell? (((((w.alloc (.cells #[.int .i64 s.r, .int .i64 s.q, .int .i64 s.p, .slice a.cA s.nA a.pA, .slice a.cB s.nB a.pB, .slice a.cC s.nC a.pC] 25)).alloc (.cells #[.int .i64 a2, .int .i64 b2] 42)).alloc (.cells #[.int .i64 a3, .int .i64 b3] 42)).alloc (.cells #[.int .i64 a4, .int .i64 b4] 42))) ⟨w.heap.size + 3, 0, none⟩ = some (.int .i64 a4) ∧ World.cell? (((((w.alloc (.cells #[.int .i64 s.r, .int .i64 s.q, .int .i64 s.p, .slice a.cA s.nA a.pA, .slice a.cB s.nB a.pB, .slice a.cC s.nC a.pC] 25)).alloc (.cells #[.int .i64 a2, .int .i64 b2] 42)).alloc (.cells #[.int .i64 a3, .int .i64 b3] 42)).alloc (.cells #[.int .i64 a4, .int .i64 b4] 42))) ⟨w.heap.size + 3, 1, none⟩ = some (.int .i64 b4)) from ⟨p0, p1, q0, q1, r0, r1⟩)
    clear x0 x1 x2 x3 x4 x5 p0 p1 q0 q1 r0 r1
    generalize ((((w.alloc (.cells #[.int .i64 s.r, .int .i64 s.q, .int .i64 s.p, .slice a.cA s.nA a.pA, .slice a.cB s.nB a.pB, .slice a.cC s.nC a.pC] 25)).alloc (.cells #[.int .i64 a2, .int .i64 b2] 42)).alloc (.cells #[.int .i64 a3, .int .i64 b3] 42)).alloc (.cells #[.int .i64 a4, .int .i64 b4] 42)) = B at KB BX EX ⊢
    go_wp2
    go_ret2
    exact TbC.none HC.out HM.out KB.out
  have h1' : ¬ (4096 : Int) < n := by omega
  have hC : bdc s n f g (pk3 a2 a3 a4) (pk3 b2 b3 b4) = if sysb s = false ∨ okP f g n = false ∨ okP (pk3 a2 a3 a4) (pk3 b2 b3 b4) 3 = false then 1 else if ¬ (n : Int) = s.r then 8 else 0 := by unfold bdc; rw [if_neg h1]
  cases h2 : sysb s with
  | false =>
    have HC := hik (show bdc s n f g (pk3 a2 a3 a4) (pk3 b2 b3 b4) = 1 by rw [hC, if_pos (.inl h2)])
    have HM := hik (show bdn s n f g (pk3 a2 a3 a4) (pk3 b2 b3 b4) = 0 by unfold bdn; rw [HC.out]; rfl)
    have H2 := hik h2
    clear hC h2
    have KB := hik (((((Chg.refl nob w).alloc (.cells #[.int .i64 s.r, .int .i64 s.q, .int .i64 s.p, .slice a.cA s.nA a.pA, .slice a.cB s.nB a.pB, .slice a.cC s.nC a.pC] 25)).alloc (.cells #[.int .i64 a2, .int .i64 b2] 42)).alloc (.cells #[.int .i64 a3, .int .i64 b3] 42)).alloc (.cells #[.int .i64 a4, .int .i64 b4] 42))
    have x0 : World.cell? ((((w.alloc (.cells #[.int .i64 s.r, .int .i64 s.q, .int .i64 s.p, .slice a.cA s.nA a.pA, .slice a.cB s.nB a.pB, .slice a.cC s.nC a.pC] 25)).alloc (.cells #[.int .i64 a2, .int .i64 b2] 42)).alloc (.cells #[.int .i64 a3, .int .i64 b3] 42)).alloc (.cells #[.int .i64 a4, .int .i64 b4] 42)) ⟨w.heap.size, 0, none⟩ = some (.int .i64 s.r) := by go_simp
    have x1 : World.cell? ((((w.alloc (.cells #[.int .i64 s.r, .int .i64 s.q, .int .i64 s.p, .slice a.cA s.nA a.pA, .slice a.cB s.nB a.pB, .slice a.cC s.nC a.pC] 25)).alloc (.cells #[.int .i64 a2, .int .i64 b2] 42)).alloc (.cells #[.int .i64 a3, .int .i64 b3] 42)).alloc (.cells #[.int .i64 a4, .int .i64 b4] 42)) ⟨w.heap.size, 1, none⟩ = some (.int .i64 s.q) := by go_simp
    have x2 : World.cell? ((((w.alloc (.cells #[.int .i64 s.r, .int .i64 s.q, .int .i64 s.p, .slice a.cA s.nA a.pA, .slice a.cB s.nB a.pB, .slice a.cC s.nC a.pC] 25)).alloc (.cells #[.int .i64 a2, .int .i64 b2] 42)).alloc (.cells #[.int .i64 a3, .int .i64 b3] 42)).alloc (.cells #[.int .i64 a4, .int .i64 b4] 42)) ⟨w.heap.size, 2, none⟩ = some (.int .i64 s.p) := by go_simp
    have x3 : World.cell? ((((w.alloc (.cells #[.int .i64 s.r, .int .i64 s.q, .int .i64 s.p, .slice a.cA s.nA a.pA, .slice a.cB s.nB a.pB, .slice a.cC s.nC a.pC] 25)).alloc (.cells #[.int .i64 a2, .int .i64 b2] 42)).alloc (.cells #[.int .i64 a3, .int .i64 b3] 42)).alloc (.cells #[.int .i64 a4, .int .i64 b4] 42)) ⟨w.heap.size, 3, none⟩ = some (.slice a.cA s.nA a.pA) := by go_simp
    have x4 : World.cell? ((((w.alloc (.cells #[.int .i64 s.r, .int .i64 s.q, .int .i64 s.p, .slice a.cA s.nA a.pA, .slice a.cB s.nB a.pB, .slice a.cC s.nC a.pC] 25)).alloc (.cells #[.int .i64 a2, .int .i64 b2] 42)).alloc (.cells #[.int .i64 a3, .int .i64 b3] 42)).alloc (.cells #[.int .i64 a4, .int .i64 b4] 42)) ⟨w.heap.size, 4, none⟩ = some (.slice a.cB s.nB a.pB) := by go_simp
    have x5 : World.cell? ((((w.alloc (.cells #[.int .i64 s.r, .int .i64 s.q, .int .i64 s.p, .slice a.cA s.nA a.pA, .slice a.cB s.nB a.pB, .slice a.cC s.nC a.pC] 25)).alloc (.cells #[.int .i64 a2, .int .i64 b2] 42)).alloc (.cells #[.int .i64 a3, .int .i64 b3] 42)).alloc (.cells #[.int .i64 a4, .int .i64 b4] 42)) ⟨w.heap.size, 5, none⟩ = some (.slice a.cC s.nC a.pC) := by go_simp
    have p0 : World.cell? ((((w.alloc (.cells #[.int .i64 s.r, .int .i64 s.q, .int .i64 s.p, .slice a.cA s.nA a.pA, .slice a.cB s.nB a.pB, .slice a.cC s.nC a.pC] 25)).alloc (.cells #[.int .i64 a2, .int .i64 b2] 42)).alloc (.cells #[.int .i64 a3, .int .i64 b3] 42)).alloc (.cells #[.int .i64 a4, .int .i64 b4] 42)) ⟨w.heap.size + 1, 0, none⟩ = some (.int .i64 a2) := by go_simp
    have p1 : World.cell? ((((w.alloc (.cells #[.int .i64 s.r, .int .i64 s.q, .int .i64 s.p, .slice a.cA s.nA a.pA, .slice a.cB s.nB a.pB, .slice a.cC s.nC a.pC] 25)).alloc (.cells #[.int .i64 a2, .int .i64 b2] 42)).alloc (.cells #[.int .i64 a3, .int .i64 b3] 42)).alloc (.cells #[.int .i64 a4, .int .i64 b4] 42)) ⟨w.heap.size + 1, 1, none⟩ = some (.int .i64 b2) := by go_simp
    have q0 : World.cell? ((((w.alloc (.cells #[.int .i64 s.r, .int .i64 s.q, .int .i64 s.p, .slice a.cA s.nA a.pA, .slice a.cB s.nB a.pB, .slice a.cC s.nC a.pC] 25)).alloc (.cells #[.int .i64 a2, .int .i64 b2] 42)).alloc (.cells #[.int .i64 a3, .int .i64 b3] 42)).alloc (.cells #[.int .i64 a4, .int .i64 b4] 42)) ⟨w.heap.size + 2, 0, none⟩ = some (.int .i64 a3) := by go_simp
    have q1 : World.cell? ((((w.alloc (.cells #[.int .i64 s.r, .int .i64 s.q, .int .i64 s.p, .slice a.cA s.nA a.pA, .slice a.cB s.nB a.pB, .slice a.cC s.nC a.pC] 25)).alloc (.cells #[.int .i64 a2, .int .i64 b2] 42)).alloc (.cells #[.int .i64 a3, .int .i64 b3] 42)).alloc (.cells #[.int .i64 a4, .int .i64 b4] 42)) ⟨w.heap.size + 2, 1, none⟩ = some (.int .i64 b3) := by go_simp
    have r0 : World.cell? ((((w.alloc (.cells #[.int .i64 s.r, .int .i64 s.q, .int .i64 s.p, .slice a.cA s.nA a.pA, .slice a.cB s.nB a.pB, .slice a.cC s.nC a.pC] 25)).alloc (.cells #[.int .i64 a2, .int .i64 b2] 42)).alloc (.cells #[.int .i64 a3, .int .i64 b3] 42)).alloc (.cells #[.int .i64 a4, .int .i64 b4] 42)) ⟨w.heap.size + 3, 0, none⟩ = some (.int .i64 a4) := by go_simp
    have r1 : World.cell? ((((w.alloc (.cells #[.int .i64 s.r, .int .i64 s.q, .int .i64 s.p, .slice a.cA s.nA a.pA, .slice a.cB s.nB a.pB, .slice a.cC s.nC a.pC] 25)).alloc (.cells #[.int .i64 a2, .int .i64 b2] 42)).alloc (.cells #[.int .i64 a3, .int .i64 b3] 42)).alloc (.cells #[.int .i64 a4, .int .i64 b4] 42)) ⟨w.heap.size + 3, 1, none⟩ = some (.int .i64 b4) := by go_simp
    have BX := hik (cel6 x0 x1 x2 x3 x4 x5)
    go_enter Tryz.func11, Tryz.ntmps11
    go_upto_region 1 with fail
    have EX := hik (show (World.cell? (((((w.alloc (.cells #[.int .i64 s.r, .int .i64 s.q, .int .i64 s.p, .slice a.cA s.nA a.pA, .slice a.cB s.nB a.pB, .slice a.cC s.nC a.pC] 25)).alloc (.cells #[.int .i64 a2, .int .i64 b2] 42)).alloc (.cells #[.int .i64 a3, .int .i64 b3] 42)).alloc (.cells #[.int .i64 a4, .int .i64 b4] 42))) ⟨w.heap.size + 1, 0, none⟩ = some (.int .i64 a2) ∧ World.cell? (((((w.alloc (.cells #[.int .i64 s.r, .int .i64 s.q, .int .i64 s.p, .slice a.cA s.nA a.pA, .slice a.cB s.nB a.pB, .slice a.cC s.nC a.pC] 25)).alloc (.cells #[.int .i64 a2, .int .i64 b2] 42)).alloc (.cells #[.int .i64 a3, .int .i64 b3] 42)).alloc (.cells #[.int .i64 a4, .int .i64 b4] 42))) ⟨w.heap.size + 1, 1, none⟩ = some (.int .i64 b2) ∧ World.cell? (((((w.alloc (.cells #[.int .i64 s.r, .int .i64 s.q, .int .i64 s.p, .slice a.cA s.nA a.pA, .slice a.cB s.nB a.pB, .slice a.cC s.nC a.pC] 25)).alloc (.cells #[.int .i64 a2, .int .i64 b2] 42)).alloc (.cells #[.int .i64 a3, .int .i64 b3] 42)).alloc (.cells #[.int .i64 a4, .int .i64 b4] 42))) ⟨w.heap.size + 2, 0, none⟩ = some (.int .i64 a3) ∧ World.cell? (((((w.alloc (.cells #[.int .i64 s.r, .int .i64 s.q, .int .i64 s.p, .slice a.cA s.nA a.pA, .slice a.cB s.nB a.pB, .slice a.cC s.nC a.pC] 25)).alloc (.cells #[.int .i64 a2, .int .i64 b2] 42)).alloc (.cells #[.int .i64 a3, .int .i64 b3] 42)).alloc (.cells #[.int .i64 a4, .int .i64 b4] 42))) ⟨w.heap.size + 2, 1, none⟩ = some (.int .i64 b3) ∧ World.cell? (((((w.alloc (.cells #[.int .i64 s.r, .int .i64 s.q, .int .i64 s.p, .slice a.cA s.nA a.pA, .slice a.cB s.nB a.pB, .slice a.cC s.nC a.pC] 25)).alloc (.cells #[.int .i64 a2, .int .i64 b2] 42)).alloc (.cells #[.int .i64 a3, .int .i64 b3] 42)).alloc (.cells #[.int .i64 a4, .int .i64 b4] 42))) ⟨w.heap.size + 3, 0, none⟩ = some (.int .i64 a4) ∧ World.cell? (((((w.alloc (.cells #[.int .i64 s.r, .int .i64 s.q, .int .i64 s.p, .slice a.cA s.nA a.pA, .slice a.cB s.nB a.pB, .slice a.cC s.nC a.pC] 25)).alloc (.cells #[.int .i64 a2, .int .i64 b2] 42)).alloc (.cells #[.int .i64 a3, .int .i64 b3] 42)).alloc (.cells #[.int .i64 a4, .int .i64 b4] 42))) ⟨w.heap.size + 3, 1, none⟩ = some (.int .i64 b4)) from ⟨p0, p1, q0, q1, r0, r1⟩)
    clear x0 x1 x2 x3 x4 x5 p0 p1 q0 q1 r0 r1
    generalize ((((w.alloc (.cells #[.int .i64 s.r, .int .i64 s.q, .int .i64 s.p, .slice a.cA s.nA a.pA, .slice a.cB s.nB a.pB, .slice a.cC s.nC a.pC] 25)).alloc (.cells #[.int .i64 a2, .int .i64 b2] 42)).alloc (.cells #[.int .i64 a3, .int .i64 b3] 42)).alloc (.cells #[.int .i64 a4, .int .i64 b4] 42)) = B at KB BX EX ⊢
    obtain ⟨p0, p1, q0, q1, r0, r1⟩ := EX.out
    go_upto_region 4 with fail
    have KT := hik ((Chg.refl nob B).alloc (.cells #[.int .i64 a2, .int .i64 b2, .int .i64 a3, .int .i64 b3, .int .i64 a4, .int .i64 b4] 64))
    have PT := hik (rowNn B 6 #[.int .i64 a2, .int .i64 b2, .int .i64 a3, .int .i64 b3, .int .i64 a4, .int .i64 b4] 64 rfl)
    replace KB := hik (KB.out.trans KT.out)
    replace BX := hik (BX.out.keep KT.out)
    replace EX := hik (show World.cell? _ ⟨w.heap.size + 1, 0, none⟩ = some (.int .i64 a2) ∧ World.cell? _ ⟨w.heap.size + 1, 1, none⟩ = some (.int .i64 b2) ∧ World.cell? _ ⟨w.heap.size + 2, 0, none⟩ = some (.int .i64 a3) ∧ World.cell? _ ⟨w.heap.size + 2, 1, none⟩ = some (.int .i64 b3) ∧ World.cell? _ ⟨w.heap.size + 3, 0, none⟩ = some (.int .i64 a4) ∧ World.cell? _ ⟨w.heap.size + 3, 1, none⟩ = some (.int .i64 b4) from ⟨KT.out.see EX.out.1, KT.out.see EX.out.2.1, KT.out.see EX.out.2.2.1, KT.out.see EX.out.2.2.2.1, KT.out.see EX.out.2.2.2.2.1, KT.out.see EX.out.2.2.2.2.2⟩)
    clear p0 p1 q0 q1 r0 r1
    generalize hW0 : B.alloc (.cells #[.int .i64 a2, .int .i64 b2, .int .i64 a3, .int .i64 b3, .int .i64 a4, .int .i64 b4] 64) = W0 at KB BX EX PT ⊢
    clear hW0 KT
    have hgw := PT.out.lt
    generalize hGW : B.heap.size = gW at PT hgw ⊢
    clear hGW hgw
    obtain ⟨x0, x1, x2, x3, x4, x5⟩ := BX.out.six
    go_wp2_with fail
    refine (sysOK_any s a _ (hik (hv.out.keep KB.out)) hs).mono ?_
    rw [H2.out]
    rintro e W1 ⟨rfl, k1⟩
    replace KB := hik (KB.out.trans k1)
    replace BX := hik (BX.out.keep k1)
    replace EX := hik (show World.cell? _ ⟨w.heap.size + 1, 0, none⟩ = some (.int .i64 a2) ∧ World.cell? _ ⟨w.heap.size + 1, 1, none⟩ = some (.int .i64 b2) ∧ World.cell? _ ⟨w.heap.size + 2, 0, none⟩ = some (.int .i64 a3) ∧ World.cell? _ ⟨w.heap.size + 2, 1, none⟩ = some (.int .i64 b3) ∧ World.cell? _ ⟨w.heap.size + 3, 0, none⟩ = some (.int .i64 a4) ∧ World.cell? _ ⟨w.heap.size + 3, 1, none⟩ = some (.int .i64 b4) from ⟨k1.see EX.out.1, k1.see EX.out.2.1, k1.see EX.out.2.2.1, k1.see EX.out.2.2.2.1, k1.see EX.out.2.2.2.2.1, k1.see EX.out.2.2.2.2.2⟩)
    replace PT := hik (rowIs_keep PT.out k1)
    clear k1 x0 x1 x2 x3 x4 x5
    go_wp2
    go_ret2
    exact TbC.none HC.out HM.out KB.out
  | true =>
  have H2 := hik h2
  cases h3 : okP f g n with
  | false =>
    have HC := hik (show bdc s n f g (pk3 a2 a3 a4) (pk3 b2 b3 b4) = 1 by rw [hC, if_pos (.inr (.inl h3))])
    have HM := hik (show bdn s n f g (pk3 a2 a3 a4) (pk3 b2 b3 b4) = 0 by unfold bdn; rw [HC.out]; rfl)
    have H3 := hik h3
    clear hC h2 h3
    have KB := hik (((((Chg.refl nob w).alloc (.cells #[.int .i64 s.r, .int .i64 s.q, .int .i64 s.p, .slice a.cA s.nA a.pA, .slice a.cB s.nB a.pB, .slice a.cC s.nC a.pC] 25)).alloc (.cells #[.int .i64 a2, .int .i64 b2] 42)).alloc (.cells #[.int .i64 a3, .int .i64 b3] 42)).alloc (.cells #[.int .i64 a4, .int .i64 b4] 42))
    have x0 : World.cell? ((((w.alloc (.cells #[.int .i64 s.r, .int .i64 s.q, .int .i64 s.p, .slice a.cA s.nA a.pA, .slice a.cB s.nB a.pB, .slice a.cC s.nC a.pC] 25)).alloc (.cells #[.int .i64 a2, .int .i64 b2] 42)).alloc (.cells #[.int .i64 a3, .int .i64 b3] 42)).alloc (.cells #[.int .i64 a4, .int .i64 b4] 42)) ⟨w.heap.size, 0, none⟩ = some (.int .i64 s.r) := by go_simp
    have x1 : World.cell? ((((w.alloc (.cells #[.int .i64 s.r, .int .i64 s.q, .int .i64 s.p, .slice a.cA s.nA a.pA, .slice a.cB s.nB a.pB, .slice a.cC s.nC a.pC] 25)).alloc (.cells #[.int .i64 a2, .int .i64 b2] 42)).alloc (.cells #[.int .i64 a3, .int .i64 b3] 42)).alloc (.cells #[.int .i64 a4, .int .i64 b4] 42)) ⟨w.heap.size, 1, none⟩ = some (.int .i64 s.q) := by go_simp
    have x2 : World.cell? ((((w.alloc (.cells #[.int .i64 s.r, .int .i64 s.q, .int .i64 s.p, .slice a.cA s.nA a.pA, .slice a.cB s.nB a.pB, .slice a.cC s.nC a.pC] 25)).alloc (.cells #[.int .i64 a2, .int .i64 b2] 42)).alloc (.cells #[.int .i64 a3, .int .i64 b3] 42)).alloc (.cells #[.int .i64 a4, .int .i64 b4] 42)) ⟨w.heap.size, 2, none⟩ = some (.int .i64 s.p) := by go_simp
    have x3 : World.cell? ((((w.alloc (.cells #[.int .i64 s.r, .int .i64 s.q, .int .i64 s.p, .slice a.cA s.nA a.pA, .slice a.cB s.nB a.pB, .slice a.cC s.nC a.pC] 25)).alloc (.cells #[.int .i64 a2, .int .i64 b2] 42)).alloc (.cells #[.int .i64 a3, .int .i64 b3] 42)).alloc (.cells #[.int .i64 a4, .int .i64 b4] 42)) ⟨w.heap.size, 3, none⟩ = some (.slice a.cA s.nA a.pA) := by go_simp
    have x4 : World.cell? ((((w.alloc (.cells #[.int .i64 s.r, .int .i64 s.q, .int .i64 s.p, .slice a.cA s.nA a.pA, .slice a.cB s.nB a.pB, .slice a.cC s.nC a.pC] 25)).alloc (.cells #[.int .i64 a2, .int .i64 b2] 42)).alloc (.cells #[.int .i64 a3, .int .i64 b3] 42)).alloc (.cells #[.int .i64 a4, .int .i64 b4] 42)) ⟨w.heap.size, 4, none⟩ = some (.slice a.cB s.nB a.pB) := by go_simp
    have x5 : World.cell? ((((w.alloc (.cells #[.int .i64 s.r, .int .i64 s.q, .int .i64 s.p, .slice a.cA s.nA a.pA, .slice a.cB s.nB a.pB, .slice a.cC s.nC a.pC] 25)).alloc (.cells #[.int .i64 a2, .int .i64 b2] 42)).alloc (.cells #[.int .i64 a3, .int .i64 b3] 42)).alloc (.cells #[.int .i64 a4, .int .i64 b4] 42)) ⟨w.heap.size, 5, none⟩ = some (.slice a.cC s.nC a.pC) := by go_simp
    have p0 : World.cell? ((((w.alloc (.cells #[.int .i64 s.r, .int .i64 s.q, .int .i64 s.p, .slice a.cA s.nA a.pA, .slice a.cB s.nB a.pB, .slice a.cC s.nC a.pC] 25)).alloc (.cells #[.int .i64 a2, .int .i64 b2] 42)).alloc (.cells #[.int .i64 a3, .int .i64 b3] 42)).alloc (.cells #[.int .i64 a4, .int .i64 b4] 42)) ⟨w.heap.size + 1, 0, none⟩ = some (.int .i64 a2) := by go_simp
    have p1 : World.cell? ((((w.alloc (.cells #[.int .i64 s.r, .int .i64 s.q, .int .i64 s.p, .slice a.cA s.nA a.pA, .slice a.cB s.nB a.pB, .slice a.cC s.nC a.pC] 25)).alloc (.cells #[.int .i64 a2, .int .i64 b2] 42)).alloc (.cells #[.int .i64 a3, .int .i64 b3] 42)).alloc (.cells #[.int .i64 a4, .int .i64 b4] 42)) ⟨w.heap.size + 1, 1, none⟩ = some (.int .i64 b2) := by go_simp
    have q0 : World.cell? ((((w.alloc (.cells #[.int .i64 s.r, .int .i64 s.q, .int .i64 s.p, .slice a.cA s.nA a.pA, .slice a.cB s.nB a.pB, .slice a.cC s.nC a.pC] 25)).alloc (.cells #[.int .i64 a2, .int .i64 b2] 42)).alloc (.cells #[.int .i64 a3, .int .i64 b3] 42)).alloc (.cells #[.int .i64 a4, .int .i64 b4] 42)) ⟨w.heap.size + 2, 0, none⟩ = some (.int .i64 a3) := by go_simp
    have q1 : World.cell? ((((w.alloc (.cells #[.int .i64 s.r, .int .i64 s.q, .int .i64 s.p, .slice a.cA s.nA a.pA, .slice a.cB s.nB a.pB, .slice a.cC s.nC a.pC] 25)).alloc (.cells #[.int .i64 a2, .int .i64 b2] 42)).alloc (.cells #[.int .i64 a3, .int .i64 b3] 42)).alloc (.cells #[.int .i64 a4, .int .i64 b4] 42)) ⟨w.heap.size + 2, 1, none⟩ = some (.int .i64 b3) := by go_simp
    have r0 : World.cell? ((((w.alloc (.cells #[.int .i64 s.r, .int .i64 s.q, .int .i64 s.p, .slice a.cA s.nA a.pA, .slice a.cB s.nB a.pB, .slice a.cC s.nC a.pC] 25)).alloc (.cells #[.int .i64 a2, .int .i64 b2] 42)).alloc (.cells #[.int .i64 a3, .int .i64 b3] 42)).alloc (.cells #[.int .i64 a4, .int .i64 b4] 42)) ⟨w.heap.size + 3, 0, none⟩ = some (.int .i64 a4) := by go_simp
    have r1 : World.cell? ((((w.alloc (.cells #[.int .i64 s.r, .int .i64 s.q, .int .i64 s.p, .slice a.cA s.nA a.pA, .slice a.cB s.nB a.pB, .slice a.cC s.nC a.pC] 25)).alloc (.cells #[.int .i64 a2, .int .i64 b2] 42)).alloc (.cells #[.int .i64 a3, .int .i64 b3] 42)).alloc (.cells #[.int .i64 a4, .int .i64 b4] 42)) ⟨w.heap.size + 3, 1, none⟩ = some (.int .i64 b4) := by go_simp
    have BX := hik (cel6 x0 x1 x2 x3 x4 x5)
    go_enter Tryz.func11, Tryz.ntmps11
    go_upto_region 1 with fail
    have EX := hik (show (World.cell? (((((w.alloc (.cells #[.int .i64 s.r, .int .i64 s.q, .int .i64 s.p, .slice a.cA s.nA a.pA, .slice a.cB s.nB a.pB, .slice a.cC s.nC a.pC] 25)).alloc (.cells #[.int .i64 a2, .int .i64 b2] 42)).alloc (.cells #[.int .i64 a3, .int .i64 b3] 42)).alloc (.cells #[.int .i64 a4, .int .i64 b4] 42))) ⟨w.heap.size + 1, 0, none⟩ = some (.int .i64 a2) ∧ World.cell? (((((w.alloc (.cells #[.int .i64 s.r, .int .i64 s.q, .int .i64 s.p, .slice a.cA s.nA a.pA, .slice a.cB s.nB a.pB, .slice a.cC s.nC a.pC] 25)).alloc (.cells #[.int .i64 a2, .int .i64 b2] 42)).alloc (.cells #[.int .i64 a3, .int .i64 b3] 42)).alloc (.cells #[.int .i64 a4, .int .i64 b4] 42))) ⟨w.heap.size + 1, 1, none⟩ = some (.int .i64 b2) ∧ World.cell? (((((w.alloc (.cells #[.int .i64 s.r, .int .i64 s.q, .int .i64 s.p, .slice a.cA s.nA a.pA, .slice a.cB s.nB a.pB, .slice a.cC s.nC a.pC] 25)).alloc (.cells #[.int .i64 a2, .int .i64 b2] 42)).alloc (.cells #[.int .i64 a3, .int .i64 b3] 42)).alloc (.cells #[.int .i64 a4, .int .i64 b4] 42))) ⟨w.heap.size + 2, 0, none⟩ = some (.int .i64 a3) ∧ World.cell? (((((w.alloc (.cells #[.int .i64 s.r, .int .i64 s.q, .int .i64 s.p, .slice a.cA s.nA a.pA, .slice a.cB s.nB a.pB, .slice a.cC s.nC a.pC] 25)).alloc (.cells #[.int .i64 a2, .int .i64 b2] 42)).alloc (.cells #[.int .i64 a3, .int .i64 b3] 42)).alloc (.cells #[.int .i64 a4, .int .i64 b4] 42))) ⟨w.heap.size + 2, 1, none⟩ = some (.int .i64 b3) ∧ World.cell? (((((w.alloc (.cells #[.int .i64 s.r, .int .i64 s.q, .int .i64 s.p, .slice a.cA s.nA a.pA, .slice a.cB s.nB a.pB, .slice a.cC s.nC a.pC] 25)).alloc (.cells #[.int .i64 a2, .int .i64 b2] 42)).alloc (.cells #[.int .i64 a3, .int .i64 b3] 42)).alloc (.cells #[.int .i64 a4, .int .i64 b4] 42))) ⟨w.heap.size + 3, 0, none⟩ = some (.int .i64 a4) ∧ World.cell? (((((w.alloc (.cells #[.int .i64 s.r, .int .i64 s.q, .int .i64 s.p, .slice a.cA s.nA a.pA, .slice a.cB s.nB a.pB, .slice a.cC s.nC a.pC] 25)).alloc (.cells #[.int .i64 a2, .int .i64 b2] 42)).alloc (.cells #[.int .i64 a3, .int .i64 b3] 42)).alloc (.cells #[.int .i64 a4, .int .i64 b4] 42))) ⟨w.heap.size + 3, 1, none⟩ = some (.int .i64 b4)) from ⟨p0, p1, q0, q1, r0, r1⟩)
    clear x0 x1 x2 x3 x4 x5 p0 p1 q0 q1 r0 r1
    generalize ((((w.alloc (.cells #[.int .i64 s.r, .int .i64 s.q, .int .i64 s.p, .slice a.cA s.nA a.pA, .slice a.cB s.nB a.pB, .slice a.cC s.nC a.pC] 25)).alloc (.cells #[.int .i64 a2, .int .i64 b2] 42)).alloc (.cells #[.int .i64 a3, .int .i64 b3] 42)).alloc (.cells #[.int .i64 a4, .int .i64 b4] 42)) = B at KB BX EX ⊢
    obtain ⟨p0, p1, q0, q1, r0, r1⟩ := EX.out
    go_upto_region 4 with fail
    have KT := hik ((Chg.refl nob B).alloc (.cells #[.int .i64 a2, .int .i64 b2, .int .i64 a3, .int .i64 b3, .int .i64 a4, .int .i64 b4] 64))
    have PT := hik (rowNn B 6 #[.int .i64 a2, .int .i64 b2, .int .i64 a3, .int .i64 b3, .int .i64 a4, .int .i64 b4] 64 rfl)
    replace KB := hik (KB.out.trans KT.out)
    replace BX := hik (BX.out.keep KT.out)
    replace EX := hik (show World.cell? _ ⟨w.heap.size + 1, 0, none⟩ = some (.int .i64 a2) ∧ World.cell? _ ⟨w.heap.size + 1, 1, none⟩ = some (.int .i64 b2) ∧ World.cell? _ ⟨w.heap.size + 2, 0, none⟩ = some (.int .i64 a3) ∧ World.cell? _ ⟨w.heap.size + 2, 1, none⟩ = some (.int .i64 b3) ∧ World.cell? _ ⟨w.heap.size + 3, 0, none⟩ = some (.int .i64 a4) ∧ World.cell? _ ⟨w.heap.size + 3, 1, none⟩ = some (.int .i64 b4) from ⟨KT.out.see EX.out.1, KT.out.see EX.out.2.1, KT.out.see EX.out.2.2.1, KT.out.see EX.out.2.2.2.1, KT.out.see EX.out.2.2.2.2.1, KT.out.see EX.out.2.2.2.2.2⟩)
    clear p0 p1 q0 q1 r0 r1
    generalize hW0 : B.alloc (.cells #[.int .i64 a2, .int .i64 b2, .int .i64 a3, .int .i64 b3, .int .i64 a4, .int .i64 b4] 64) = W0 at KB BX EX PT ⊢
    clear hW0 KT
    have hgw := PT.out.lt
    generalize hGW : B.heap.size = gW at PT hgw ⊢
    clear hGW hgw
    obtain ⟨x0, x1, x2, x3, x4, x5⟩ := BX.out.six
    go_wp2_with fail
    refine (sysOK_any s a _ (hik (hv.out.keep KB.out)) hs).mono ?_
    rw [H2.out]
    rintro e W1 ⟨rfl, k1⟩
    replace KB := hik (KB.out.trans k1)
    replace BX := hik (BX.out.keep k1)
    replace EX := hik (show World.cell? _ ⟨w.heap.size + 1, 0, none⟩ = some (.int .i64 a2) ∧ World.cell? _ ⟨w.heap.size + 1, 1, none⟩ = some (.int .i64 b2) ∧ World.cell? _ ⟨w.heap.size + 2, 0, none⟩ = some (.int .i64 a3) ∧ World.cell? _ ⟨w.heap.size + 2, 1, none⟩ = some (.int .i64 b3) ∧ World.cell? _ ⟨w.heap.size + 3, 0, none⟩ = some (.int .i64 a4) ∧ World.cell? _ ⟨w.heap.size + 3, 1, none⟩ = some (.int .i64 b4) from ⟨k1.see EX.out.1, k1.see EX.out.2.1, k1.see EX.out.2.2.1, k1.see EX.out.2.2.2.1, k1.see EX.out.2.2.2.2.1, k1.see EX.out.2.2.2.2.2⟩)
    replace PT := hik (rowIs_keep PT.out k1)
    clear k1 x0 x1 x2 x3 x4 x5
    go_wp2_with fail
    refine (extsOK_any cx n capx f g _ (hik (PairV.keep hp.out KB.out)) hn).mono ?_
    rw [H3.out]
    rintro e W2 ⟨rfl, k2⟩
    replace KB := hik (KB.out.trans k2)
    replace BX := hik (BX.out.keep k2)
    replace EX := hik (show World.cell? _ ⟨w.heap.size + 1, 0, none⟩ = some (.int .i64 a2) ∧ World.cell? _ ⟨w.heap.size + 1, 1, none⟩ = some (.int .i64 b2) ∧ World.cell? _ ⟨w.heap.size + 2, 0, none⟩ = some (.int .i64 a3) ∧ World.cell? _ ⟨w.heap.size + 2, 1, none⟩ = some (.int .i64 b3) ∧ World.cell? _ ⟨w.heap.size + 3, 0, none⟩ = some (.int .i64 a4) ∧ World.cell? _ ⟨w.heap.size + 3, 1, none⟩ = some (.int .i64 b4) from ⟨k2.see EX.out.1, k2.see EX.out.2.1, k2.see EX.out.2.2.1, k2.see EX.out.2.2.2.1, k2.see EX.out.2.2.2.2.1, k2.see EX.out.2.2.2.2.2⟩)
    replace PT := hik (rowIs_keep PT.out k2)
    clear k2
    go_wp2
    go_ret2
    exact TbC.none HC.out HM.out KB.out
  | true =>
  have H3 := hik h3
  cases h4 : okP (pk3 a2 a3 a4) (pk3 b2 b3 b4) 3 with
  | false =>
    have HC := hik (show bdc s n f g (pk3 a2 a3 a4) (pk3 b2 b3 b4) = 1 by rw [hC, if_pos (.inr (.inr h4))])
    have HM := hik (show bdn s n f g (pk3 a2 a3 a4) (pk3 b2 b3 b4) = 0 by unfold bdn; rw [HC.out]; rfl)
    have H4 := hik h4
    clear hC h2 h3 h4
    have KB := hik (((((Chg.refl nob w).alloc (.cells #[.int .i64 s.r, .int .i64 s.q, .int .i64 s.p, .slice a.cA s.nA a.pA, .slice a.cB s.nB a.pB, .slice a.cC s.nC a.pC] 25)).alloc (.cells #[.int .i64 a2, .int .i64 b2] 42)).alloc (.cells #[.int .i64 a3, .int .i64 b3] 42)).alloc (.cells #[.int .i64 a4, .int .i64 b4] 42))
    have x0 : World.cell? ((((w.alloc (.cells #[.int .i64 s.r, .int .i64 s.q, .int .i64 s.p, .slice a.cA s.nA a.pA, .slice a.cB s.nB a.pB, .slice a.cC s.nC a.pC] 25)).alloc (.cells #[.int .i64 a2, .int .i64 b2] 42)).alloc (.cells #[.int .i64 a3, .int .i64 b3] 42)).alloc (.cells #[.int .i64 a4, .int .i64 b4] 42)) ⟨w.heap.size, 0, none⟩ = some (.int .i64 s.r) := by go_simp
    have x1 : World.cell? ((((w.alloc (.cells #[.int .i64 s.r, .int .i64 s.q, .int .i64 s.p, .slice a.cA s.nA a.pA, .slice a.cB s.nB a.pB, .slice a.cC s.nC a.pC] 25)).alloc (.cells #[.int .i64 a2, .int .i64 b2] 42)).alloc (.cells #[.int .i64 a3, .int .i64 b3] 42)).alloc (.cells #[.int .i64 a4, .int .i64 b4] 42)) ⟨w.heap.size, 1, none⟩ = some (.int .i64 s.q) := by go_simp
    have x2 : World.cell? ((((w.alloc (.cells #[.int .i64 s.r, .int .i64 s.q, .int .i64 s.p, .slice a.cA s.nA a.pA, .slice a.cB s.nB a.pB, .slice a.cC s.nC a.pC] 25)).alloc (.cells #[.int .i64 a2, .int .i64 b2] 42)).alloc (.cells #[.int .i64 a3, .int .i64 b3] 42)).alloc (.cells #[.int .i64 a4, .int .i64 b4] 42)) ⟨w.heap.size, 2, none⟩ = some (.int .i64 s.p) := by go_simp
    have x3 : World.cell? ((((w.alloc (.cells #[.int .i64 s.r, .int .i64 s.q, .int .i64 s.p, .slice a.cA s.nA a.pA, .slice a.cB s.nB a.pB, .slice a.cC s.nC a.pC] 25)).alloc (.cells #[.int .i64 a2, .int .i64 b2] 42)).alloc (.cells #[.int .i64 a3, .int .i64 b3] 42)).alloc (.cells #[.int .i64 a4, .int .i64 b4] 42)) ⟨w.heap.size, 3, none⟩ = some (.slice a.cA s.nA a.pA) := by go_simp
    have x4 : World.cell? ((((w.alloc (.cells #[.int .i64 s.r, .int .i64 s.q, .int .i64 s.p, .slice a.cA s.nA a.pA, .slice a.cB s.nB a.pB, .slice a.cC s.nC a.pC] 25)).alloc (.cells #[.int .i64 a2, .int .i64 b2] 42)).alloc (.cells #[.int .i64 a3, .int .i64 b3] 42)).alloc (.cells #[.int .i64 a4, .int .i64 b4] 42)) ⟨w.heap.size, 4, none⟩ = some (.slice a.cB s.nB a.pB) := by go_simp
    have x5 : World.cell? ((((w.alloc (.cells #[.int .i64 s.r, .int .i64 s.q, .int .i64 s.p, .slice a.cA s.nA a.pA, .slice a.cB s.nB a.pB, .slice a.cC s.nC a.pC] 25)).alloc (.cells #[.int .i64 a2, .int .i64 b2] 42)).alloc (.cells #[.int .i64 a3, .int .i64 b3] 42)).alloc (.cells #[.int .i64 a4, .int .i64 b4] 42)) ⟨w.heap.size, 5, none⟩ = some (.slice a.cC s.nC a.pC) := by go_simp
    have p0 : World.cell? ((((w.alloc (.cells #[.int .i64 s.r, .int .i64 s.q, .int .i64 s.p, .slice a.cA s.nA a.pA, .slice a.cB s.nB a.pB, .slice a.cC s.nC a.pC] 25)).alloc (.cells #[.int .i64 a2, .int .i64 b2] 42)).alloc (.cells #[.int .i64 a3, .int .i64 b3] 42)).alloc (.cells #[.int .i64 a4, .int .i64 b4] 42)) ⟨w.heap.size + 1, 0, none⟩ = some (.int .i64 a2) := by go_simp
    have p1 : World.cell? ((((w.alloc (.cells #[.int .i64 s.r, .int .i64 s.q, .int .i64 s.p, .slice a.cA s.nA a.pA, .slice a.cB s.nB a.pB, .slice a.cC s.nC a.pC] 25)).alloc (.cells #[.int .i64 a2, .int .i64 b2] 42)).alloc (.cells #[.int .i64 a3, .int .i64 b3] 42)).alloc (.cells #[.int .i64 a4, .int .i64 b4] 42)) ⟨w.heap.size + 1, 1, none⟩ = some (.int .i64 b2) := by go_simp
    have q0 : World.cell? ((((w.alloc (.cells #[.int .i64 s.r, .int .i64 s.q, .int .i64 s.p, .slice a.cA s.nA a.pA, .slice a.cB s.nB a.pB, .slice a.cC s.nC a.pC] 25)).alloc (.cells #[.int .i64 a2, .int .i64 b2] 42)).alloc (.cells #[.int .i64 a3, .int .i64 b3] 42)).alloc (.cells #[.int .i64 a4, .int .i64 b4] 42)) ⟨w.heap.size + 2, 0, none⟩ = some (.int .i64 a3) := by go_simp
    have q1 : World.cell? ((((w.alloc (.cells #[.int .i64 s.r, .int .i64 s.q, .int .i64 s.p, .slice a.cA s.nA a.pA, .slice a.cB s.nB a.pB, .slice a.cC s.nC a.pC] 25)).alloc (.cells #[.int .i64 a2, .int .i64 b2] 42)).alloc (.cells #[.int .i64 a3, .int .i64 b3] 42)).alloc (.cells #[.int .i64 a4, .int .i64 b4] 42)) ⟨w.heap.size + 2, 1, none⟩ = some (.int .i64 b3) := by go_simp
    have r0 : World.cell? ((((w.alloc (.cells #[.int .i64 s.r, .int .i64 s.q, .int .i64 s.p, .slice a.cA s.nA a.pA, .slice a.cB s.nB a.pB, .slice a.cC s.nC a.pC] 25)).alloc (.cells #[.int .i64 a2, .int .i64 b2] 42)).alloc (.cells #[.int .i64 a3, .int .i64 b3] 42)).alloc (.cells #[.int .i64 a4, .int .i64 b4] 42)) ⟨w.heap.size + 3, 0, none⟩ = some (.int .i64 a4) := by go_simp
    have r1 : World.cell? ((((w.alloc (.cells #[.int .i64 s.r, .int .i64 s.q, .int .i64 s.p, .slice a.cA s.nA a.pA, .slice a.cB s.nB a.pB, .slice a.cC s.nC a.pC] 25)).alloc (.cells #[.int .i64 a2, .int .i64 b2] 42)).alloc (.cells #[.int .i64 a3, .int .i64 b3] 42)).alloc (.cells #[.int .i64 a4, .int .i64 b4] 42)) ⟨w.heap.size + 3, 1, none⟩ = some (.int .i64 b4) := by go_simp
    have BX := hik (cel6 x0 x1 x2 x3 x4 x5)
    go_enter Tryz.func11, Tryz.ntmps11
    go_upto_region 1 with fail
    have EX := hik (show (World.cell? (((((w.alloc (.cells #[.int .i64 s.r, .int .i64 s.q, .int .i64 s.p, .slice a.cA s.nA a.pA, .slice a.cB s.nB a.pB, .slice a.cC s.nC a.pC] 25)).alloc (.cells #[.int .i64 a2, .int .i64 b2] 42)).alloc (.cells #[.int .i64 a3, .int .i64 b3] 42)).alloc (.cells #[.int .i64 a4, .int .i64 b4] 42))) ⟨w.heap.size + 1, 0, none⟩ = some (.int .i64 a2) ∧ World.cell? (((((w.alloc (.cells #[.int .i64 s.r, .int .i64 s.q, .int .i64 s.p, .slice a.cA s.nA a.pA, .slice a.cB s.nB a.pB, .slice a.cC s.nC a.pC] 25)).alloc (.cells #[.int .i64 a2, .int .i64 b2] 42)).alloc (.cells #[.int .i64 a3, .int .i64 b3] 42)).alloc (.cells #[.int .i64 a4, .int .i64 b4] 42))) ⟨w.heap.size + 1, 1, none⟩ = some (.int .i64 b2) ∧ World.cell? (((((w.alloc (.cells #[.int .i64 s.r, .int .i64 s.q, .int .i64 s.p, .slice a.cA s.nA a.pA, .slice a.cB s.nB a.pB, .slice a.cC s.nC a.pC] 25)).alloc (.cells #[.int .i64 a2, .int .i64 b2] 42)).alloc (.cells #[.int .i64 a3, .int .i64 b3] 42)).alloc (.cells #[.int .i64 a4, .int .i64 b4] 42))) ⟨w.heap.size + 2, 0, none⟩ = some (.int .i64 a3) ∧ World.cell? (((((w.alloc (.cells #[.int .i64 s.r, .int .i64 s.q, .int .i64 s.p, .slice a.cA s.nA a.pA, .slice a.cB s.nB a.pB, .slice a.cC s.nC a.pC] 25)).alloc (.cells #[.int .i64 a2, .int .i64 b2] 42)).alloc (.cells #[.int .i64 a3, .int .i64 b3] 42)).alloc (.cells #[.int .i64 a4, .int .i64 b4] 42))) ⟨w.heap.size + 2, 1, none⟩ = some (.int .i64 b3) ∧ World.cell? (((((w.alloc (.cells #[.int .i64 s.r, .int .i64 s.q, .int .i64 s.p, .slice a.cA s.nA a.pA, .slice a.cB s.nB a.pB, .slice a.cC s.nC a.pC] 25)).alloc (.cells #[.int .i64 a2, .int .i64 b2] 42)).alloc (.cells #[.int .i64 a3, .int .i64 b3] 42)).alloc (.cells #[.int .i64 a4, .int .i64 b4] 42))) ⟨w.heap.size + 3, 0, none⟩ = some (.int .i64 a4) ∧ World.cell? (((((w.alloc (.cells #[.int .i64 s.r, .int .i64 s.q, .int .i64 s.p, .slice a.cA s.nA a.pA, .slice a.cB s.nB a.pB, .slice a.cC s.nC a.pC] 25)).alloc (.cells #[.int .i64 a2, .int .i64 b2] 42)).alloc (.cells #[.int .i64 a3, .int .i64 b3] 42)).alloc (.cells #[.int .i64 a4, .int .i64 b4] 42))) ⟨w.heap.size + 3, 1, none⟩ = some (.int .i64 b4)) from ⟨p0, p1, q0, q1, r0, r1⟩)
    clear x0 x1 x2 x3 x4 x5 p0 p1 q0 q1 r0 r1
    generalize ((((w.alloc (.cells #[.int .i64 s.r, .int .i64 s.q, .int .i64 s.p, .slice a.cA s.nA a.pA, .slice a.cB s.nB a.pB, .slice a.cC s.nC a.pC] 25)).alloc (.cells #[.int .i64 a2, .int .i64 b2] 42)).alloc (.cells #[.int .i64 a3, .int .i64 b3] 42)).alloc (.cells #[.int .i64 a4, .int .i64 b4] 42)) = B at KB BX EX ⊢
    obtain ⟨p0, p1, q0, q1, r0, r1⟩ := EX.out
    go_upto_region 4 with fail
    have KT := hik ((Chg.refl nob B).alloc (.cells #[.int .i64 a2, .int .i64 b2, .int .i64 a3, .int .i64 b3, .int .i64 a4, .int .i64 b4] 64))
    have PT := hik (rowNn B 6 #[.int .i64 a2, .int .i64 b2, .int .i64 a3, .int .i64 b3, .int .i64 a4, .int .i64 b4] 64 rfl)
    replace KB := hik (KB.out.trans KT.out)
    replace BX := hik (BX.out.keep KT.out)
    replace EX := hik (show World.cell? _ ⟨w.heap.size + 1, 0, none⟩ = some (.int .i64 a2) ∧ World.cell? _ ⟨w.heap.size + 1, 1, none⟩ = some (.int .i64 b2) ∧ World.cell? _ ⟨w.heap.size + 2, 0, none⟩ = some (.int .i64 a3) ∧ World.cell? _ ⟨w.heap.size + 2, 1, none⟩ = some (.int .i64 b3) ∧ World.cell? _ ⟨w.heap.size + 3, 0, none⟩ = some (.int .i64 a4) ∧ World.cell? _ ⟨w.heap.size + 3, 1, none⟩ = some (.int .i64 b4) from ⟨KT.out.see EX.out.1, KT.out.see EX.out.2.1, KT.out.see EX.out.2.2.1, KT.out.see EX.out.2.2.2.1, KT.out.see EX.out.2.2.2.2.1, KT.out.see EX.out.2.2.2.2.2⟩)
    clear p0 p1 q0 q1 r0 r1
    generalize hW0 : B.alloc (.cells #[.int .i64 a2, .int .i64 b2, .int .i64 a3, .int .i64 b3, .int .i64 a4, .int .i64 b4] 64) = W0 at KB BX EX PT ⊢
    clear hW0 KT
    have hgw := PT.out.lt
    generalize hGW : B.heap.size = gW at PT hgw ⊢
    clear hGW hgw
    obtain ⟨x0, x1, x2, x3, x4, x5⟩ := BX.out.six
    go_wp2_with fail
    refine (sysOK_any s a _ (hik (hv.out.keep KB.out)) hs).mono ?_
    rw [H2.out]
    rintro e W1 ⟨rfl, k1⟩
    replace KB := hik (KB.out.trans k1)
    replace BX := hik (BX.out.keep k1)
    replace EX := hik (show World.cell? _ ⟨w.heap.size + 1, 0, none⟩ = some (.int .i64 a2) ∧ World.cell? _ ⟨w.heap.size + 1, 1, none⟩ = some (.int .i64 b2) ∧ World.cell? _ ⟨w.heap.size + 2, 0, none⟩ = some (.int .i64 a3) ∧ World.cell? _ ⟨w.heap.size + 2, 1, none⟩ = some (.int .i64 b3) ∧ World.cell? _ ⟨w.heap.size + 3, 0, none⟩ = some (.int .i64 a4) ∧ World.cell? _ ⟨w.heap.size + 3, 1, none⟩ = some (.int .i64 b4) from ⟨k1.see EX.out.1, k1.see EX.out.2.1, k1.see EX.out.2.2.1, k1.see EX.out.2.2.2.1, k1.see EX.out.2.2.2.2.1, k1.see EX.out.2.2.2.2.2⟩)
    replace PT := hik (rowIs_keep PT.out k1)
    clear k1 x0 x1 x2 x3 x4 x5
    go_wp2_with fail
    refine (extsOK_any cx n capx f g _ (hik (PairV.keep hp.out KB.out)) hn).mono ?_
    rw [H3.out]
    rintro e W2 ⟨rfl, k2⟩
    replace KB := hik (KB.out.trans k2)
    replace BX := hik (BX.out.keep k2)
    replace EX := hik (show World.cell? _ ⟨w.heap.size + 1, 0, none⟩ = some (.int .i64 a2) ∧ World.cell? _ ⟨w.heap.size + 1, 1, none⟩ = some (.int .i64 b2) ∧ World.cell? _ ⟨w.heap.size + 2, 0, none⟩ = some (.int .i64 a3) ∧ World.cell? _ ⟨w.heap.size + 2, 1, none⟩ = some (.int .i64 b3) ∧ World.cell? _ ⟨w.heap.size + 3, 0, none⟩ = some (.int .i64 a4) ∧ World.cell? _ ⟨w.heap.size + 3, 1, none⟩ = some (.int .i64 b4) from ⟨k2.see EX.out.1, k2.see EX.out.2.1, k2.see EX.out.2.2.1, k2.see EX.out.2.2.2.1, k2.see EX.out.2.2.2.2.1, k2.see EX.out.2.2.2.2.2⟩)
    replace PT := hik (rowIs_keep PT.out k2)
    clear k2
    have hgl := PT.out.lt
    go_wp2_with fail
    refine (extsOK_any _ 3 3 (pk3 a2 a3 a4) (pk3 b2 b3 b4) _ (hik (pairs3r PT.out)) (by omega)).mono ?_
    rw [H4.out]
    rintro e W3 ⟨rfl, k3⟩
    replace KB := hik (KB.out.trans k3)
    replace BX := hik (BX.out.keep k3)
    replace EX := hik (show World.cell? _ ⟨w.heap.size + 1, 0, none⟩ = some (.int .i64 a2) ∧ World.cell? _ ⟨w.heap.size + 1, 1, none⟩ = some (.int .i64 b2) ∧ World.cell? _ ⟨w.heap.size + 2, 0, none⟩ = some (.int .i64 a3) ∧ World.cell? _ ⟨w.heap.size + 2, 1, none⟩ = some (.int .i64 b3) ∧ World.cell? _ ⟨w.heap.size + 3, 0, none⟩ = some (.int .i64 a4) ∧ World.cell? _ ⟨w.heap.size + 3, 1, none⟩ = some (.int .i64 b4) from ⟨k3.see EX.out.1, k3.see EX.out.2.1, k3.see EX.out.2.2.1, k3.see EX.out.2.2.2.1, k3.see EX.out.2.2.2.2.1, k3.see EX.out.2.2.2.2.2⟩)
    replace PT := hik (rowIs_keep PT.out k3)
    clear k3 hgl
    go_wp2
    go_ret2
    exact TbC.none HC.out HM.out KB.out
  | true =>
  have H4 := hik h4
  rw [if_neg (by rw [h2, h3, h4]; simp)] at hC
  by_cases h5 : ¬ (n : Int) = s.r
  · have HC := hik (show bdc s n f g (pk3 a2 a3 a4) (pk3 b2 b3 b4) = 8 by rw [hC, if_pos h5])
    have HM := hik (show bdn s n f g (pk3 a2 a3 a4) (pk3 b2 b3 b4) = 0 by unfold bdn; rw [HC.out]; rfl)
    clear hC h2 h3 h4
    have h5' : ((n : Int) != s.r) = true := by simpa using h5
    have KB := hik (((((Chg.refl nob w).alloc (.cells #[.int .i64 s.r, .int .i64 s.q, .int .i64 s.p, .slice a.cA s.nA a.pA, .slice a.cB s.nB a.pB, .slice a.cC s.nC a.pC] 25)).alloc (.cells #[.int .i64 a2, .int .i64 b2] 42)).alloc (.cells #[.int .i64 a3, .int .i64 b3] 42)).alloc (.cells #[.int .i64 a4, .int .i64 b4] 42))
    have x0 : World.cell? ((((w.alloc (.cells #[.int .i64 s.r, .int .i64 s.q, .int .i64 s.p, .slice a.cA s.nA a.pA, .slice a.cB s.nB a.pB, .slice a.cC s.nC a.pC] 25)).alloc (.cells #[.int .i64 a2, .int .i64 b2] 42)).alloc (.cells #[.int .i64 a3, .int .i64 b3] 42)).alloc (.cells #[.int .i64 a4, .int .i64 b4] 42)) ⟨w.heap.size, 0, none⟩ = some (.int .i64 s.r) := by go_simp
    have x1 : World.cell? ((((w.alloc (.cells #[.int .i64 s.r, .int .i64 s.q, .int .i64 s.p, .slice a.cA s.nA a.pA, .slice a.cB s.nB a.pB, .slice a.cC s.nC a.pC] 25)).alloc (.cells #[.int .i64 a2, .int .i64 b2] 42)).alloc (.cells #[.int .i64 a3, .int .i64 b3] 42)).alloc (.cells #[.int .i64 a4, .int .i64 b4] 42)) ⟨w.heap.size, 1, none⟩ = some (.int .i64 s.q) := by go_simp
    have x2 : World.cell? ((((w.alloc (.cells #[.int .i64 s.r, .int .i64 s.q, .int .i64 s.p, .slice a.cA s.nA a.pA, .slice a.cB s.nB a.pB, .slice a.cC s.nC a.pC] 25)).alloc (.cells #[.int .i64 a2, .int .i64 b2] 42)).alloc (.cells #[.int .i64 a3, .int .i64 b3] 42)).alloc (.cells #[.int .i64 a4, .int .i64 b4] 42)) ⟨w.heap.size, 2, none⟩ = some (.int .i64 s.p) := by go_simp
    have x3 : World.cell? ((((w.alloc (.cells #[.int .i64 s.r, .int .i64 s.q, .int .i64 s.p, .slice a.cA s.nA a.pA, .slice a.cB s.nB a.pB, .slice a.cC s.nC a.pC] 25)).alloc (.cells #[.int .i64 a2, .int .i64 b2] 42)).alloc (.cells #[.int .i64 a3, .int .i64 b3] 42)).alloc (.cells #[.int .i64 a4, .int .i64 b4] 42)) ⟨w.heap.size, 3, none⟩ = some (.slice a.cA s.nA a.pA) := by go_simp
    have x4 : World.cell? ((((w.alloc (.cells #[.int .i64 s.r, .int .i64 s.q, .int .i64 s.p, .slice a.cA s.nA a.pA, .slice a.cB s.nB a.pB, .slice a.cC s.nC a.pC] 25)).alloc (.cells #[.int .i64 a2, .int .i64 b2] 42)).alloc (.cells #[.int .i64 a3, .int .i64 b3] 42)).alloc (.cells #[.int .i64 a4, .int .i64 b4] 42)) ⟨w.heap.size, 4, none⟩ = some (.slice a.cB s.nB a.pB) := by go_simp
    have x5 : World.cell? ((((w.alloc (.cells #[.int .i64 s.r, .int .i64 s.q, .int .i64 s.p, .slice a.cA s.nA a.pA, .slice a.cB s.nB a.pB, .slice a.cC s.nC a.pC] 25)).alloc (.cells #[.int .i64 a2, .int .i64 b2] 42)).alloc (.cells #[.int .i64 a3, .int .i64 b3] 42)).alloc (.cells #[.int .i64 a4, .int .i64 b4] 42)) ⟨w.heap.size, 5, none⟩ = some (.slice a.cC s.nC a.pC) := by go_simp
    have p0 : World.cell? ((((w.alloc (.cells #[.int .i64 s.r, .int .i64 s.q, .int .i64 s.p, .slice a.cA s.nA a.pA, .slice a.cB s.nB a.pB, .slice a.cC s.nC a.pC] 25)).alloc (.cells #[.int .i64 a2, .int .i64 b2] 42)).alloc (.cells #[.int .i64 a3, .int .i64 b3] 42)).alloc (.cells #[.int .i64 a4, .int .i64 b4] 42)) ⟨w.heap.size + 1, 0, none⟩ = some (.int .i64 a2) := by go_simp
    have p1 : World.cell? ((((w.alloc (.cells #[.int .i64 s.r, .int .i64 s.q, .int .i64 s.p, .slice a.cA s.nA a.pA, .slice a.cB s.nB a.pB, .slice a.cC s.nC a.pC] 25)).alloc (.cells #[.int .i64 a2, .int .i64 b2] 42)).alloc (.cells #[.int .i64 a3, .int .i64 b3] 42)).alloc (.cells #[.int .i64 a4, .int .i64 b4] 42)) ⟨w.heap.size + 1, 1, none⟩ = some (.int .i64 b2) := by go_simp
    have q0 : World.cell? ((((w.alloc (.cells #[.int .i64 s.r, .int .i64 s.q, .int .i64 s.p, .slice a.cA s.nA a.pA, .slice a.cB s.nB a.pB, .slice a.cC s.nC a.pC] 25)).alloc (.cells #[.int .i64 a2, .int .i64 b2] 42)).alloc (.cells #[.int .i64 a3, .int .i64 b3] 42)).alloc (.cells #[.int .i64 a4, .int .i64 b4] 42)) ⟨w.heap.size + 2, 0, none⟩ = some (.int .i64 a3) := by go_simp
    have q1 : World.cell? ((((w.alloc (.cells #[.int .i64 s.r, .int .i64 s.q, .int .i64 s.p, .slice a.cA s.nA a.pA, .slice a.cB s.nB a.pB, .slice a.cC s.nC a.pC] 25)).alloc (.cells #[.int .i64 a2, .int .i64 b2] 42)).alloc (.cells #[.int .i64 a3, .int .i64 b3] 42)).alloc (.cells #[.int .i64 a4, .int .i64 b4] 42)) ⟨w.heap.size + 2, 1, none⟩ = some (.int .i64 b3) := by go_simp
    have r0 : World.cell? ((((w.alloc (.cells #[.int .i64 s.r, .int .i64 s.q, .int .i64 s.p, .slice a.cA s.nA a.pA, .slice a.cB s.nB a.pB, .slice a.cC s.nC a.pC] 25)).alloc (.cells #[.int .i64 a2, .int .i64 b2] 42)).alloc (.cells #[.int .i64 a3, .int .i64 b3] 42)).alloc (.cells #[.int .i64 a4, .int .i64 b4] 42)) ⟨w.heap.size + 3, 0, none⟩ = some (.int .i64 a4) := by go_simp
    have r1 : World.cell? ((((w.alloc (.cells #[.int .i64 s.r, .int .i64 s.q, .int .i64 s.p, .slice a.cA s.nA a.pA, .slice a.cB s.nB a.pB, .slice a.cC s.nC a.pC] 25)).alloc (.cells #[.int .i64 a2, .int .i64 b2] 42)).alloc (.cells #[.int .i64 a3, .int .i64 b3] 42)).alloc (.cells #[.int .i64 a4, .int .i64 b4] 42)) ⟨w.heap.size + 3, 1, none⟩ = some (.int .i64 b4) := by go_simp
    have BX := hik (cel6 x0 x1 x2 x3 x4 x5)
    go_enter Tryz.func11, Tryz.ntmps11
    go_upto_region 1 with fail
    have EX := hik (show (World.cell? (((((w.alloc (.cells #[.int .i64 s.r, .int .i64 s.q, .int .i64 s.p, .slice a.cA s.nA a.pA, .slice a.cB s.nB a.pB, .slice a.cC s.nC a.pC] 25)).alloc (.cells #[.int .i64 a2, .int .i64 b2] 42)).alloc (.cells #[.int .i64 a3, .int .i64 b3] 42)).alloc (.cells #[.int .i64 a4, .int .i64 b4] 42))) ⟨w.heap.size + 1, 0, none⟩ = some (.int .i64 a2) ∧ World.cell? (((((w.alloc (.cells #[.int .i64 s.r, .int .i64 s.q, .int .i64 s.p, .slice a.cA s.nA a.pA, .slice a.cB s.nB a.pB, .slice a.cC s.nC a.pC] 25)).alloc (.cells #[.int .i64 a2, .int .i64 b2] 42)).alloc (.cells #[.int .i64 a3, .int .i64 b3] 42)).alloc (.cells #[.int .i64 a4, .int .i64 b4] 42))) ⟨w.heap.size + 1, 1, none⟩ = some (.int .i64 b2) ∧ World.cell? (((((w.alloc (.cells #[.int .i64 s.r, .int .i64 s.q, .int .i64 s.p, .slice a.cA s.nA a.pA, .slice a.cB s.nB a.pB, .slice a.cC s.nC a.pC] 25)).alloc (.cells #[.int .i64 a2, .int .i64 b2] 42)).alloc (.cells #[.int .i64 a3, .int .i64 b3] 42)).alloc (.cells #[.int .i64 a4, .int .i64 b4] 42))) ⟨w.heap.size + 2, 0, none⟩ = some (.int .i64 a3) ∧ World.cell? (((((w.alloc (.cells #[.int .i64 s.r, .int .i64 s.q, .int .i64 s.p, .slice a.cA s.nA a.pA, .slice a.cB s.nB a.pB, .slice a.cC s.nC a.pC] 25)).alloc (.cells #[.int .i64 a2, .int .i64 b2] 42)).alloc (.cells #[.int .i64 a3, .int .i64 b3] 42)).alloc (.cells #[.int .i64 a4, .int .i64 b4] 42))) ⟨w.heap.size + 2, 1, none⟩ = some (.int .i64 b3) ∧ World.cell? (((((w.alloc (.cells #[.int .i64 s.r, .int .i64 s.q, .int .i64 s.p, .slice a.cA s.nA a.pA, .slice a.cB s.nB a.pB, .slice a.cC s.nC a.pC] 25)).alloc (.cells #[.int .i64 a2, .int .i64 b2] 42)).alloc (.cells #[.int .i64 a3, .int .i64 b3] 42)).alloc (.cells #[.int .i64 a4, .int .i64 b4] 42))) ⟨w.heap.size + 3, 0, none⟩ = some (.int .i64 a4) ∧ World.cell? (((((w.alloc (.cells #[.int .i64 s.r, .int .i64 s.q, .int .i64 s.p, .slice a.cA s.nA a.pA, .slice a.cB s.nB a.pB, .slice a.cC s.nC a.pC] 25)).alloc (.cells #[.int .i64 a2, .int .i64 b2] 42)).alloc (.cells #[.int .i64 a3, .int .i64 b3] 42)).alloc (.cells #[.int .i64 a4, .int .i64 b4] 42))) ⟨w.heap.size + 3, 1, none⟩ = some (.int .i64 b4)) from ⟨p0, p1, q0, q1, r0, r1⟩)
    clear x0 x1 x2 x3 x4 x5 p0 p1 q0 q1 r0 r1
    generalize ((((w.alloc (.cells #[.int .i64 s.r, .int .i64 s.q, .int .i64 s.p, .slice a.cA s.nA a.pA, .slice a.cB s.nB a.pB, .slice a.cC s.nC a.pC] 25)).alloc (.cells #[.int .i64 a2, .int .i64 b2] 42)).alloc (.cells #[.int .i64 a3, .int .i64 b3] 42)).alloc (.cells #[.int .i64 a4, .int .i64 b4] 42)) = B at KB BX EX ⊢
    obtain ⟨p0, p1, q0, q1, r0, r1⟩ := EX.out
    go_upto_region 4 with fail
    have KT := hik ((Chg.refl nob B).alloc (.cells #[.int .i64 a2, .int .i64 b2, .int .i64 a3, .int .i64 b3, .int .i64 a4, .int .i64 b4] 64))
    have PT := hik (rowNn B 6 #[.int .i64 a2, .int .i64 b2, .int .i64 a3, .int .i64 b3, .int .i64 a4, .int .i64 b4] 64 rfl)
    replace KB := hik (KB.out.trans KT.out)
    replace BX := hik (BX.out.keep KT.out)
    replace EX := hik (show World.cell? _ ⟨w.heap.size + 1, 0, none⟩ = some (.int .i64 a2) ∧ World.cell? _ ⟨w.heap.size + 1, 1, none⟩ = some (.int .i64 b2) ∧ World.cell? _ ⟨w.heap.size + 2, 0, none⟩ = some (.int .i64 a3) ∧ World.cell? _ ⟨w.heap.size + 2, 1, none⟩ = some (.int .i64 b3) ∧ World.cell? _ ⟨w.heap.size + 3, 0, none⟩ = some (.int .i64 a4) ∧ World.cell? _ ⟨w.heap.size + 3, 1, none⟩ = some (.int .i64 b4) from ⟨KT.out.see EX.out.1, KT.out.see EX.out.2.1, KT.out.see EX.out.2.2.1, KT.out.see EX.out.2.2.2.1, KT.out.see EX.out.2.2.2.2.1, KT.out.see EX.out.2.2.2.2.2⟩)
    clear p0 p1 q0 q1 r0 r1
    generalize hW0 : B.alloc (.cells #[.int .i64 a2, .int .i64 b2, .int .i64 a3, .int .i64 b3, .int .i64 a4, .int .i64 b4] 64) = W0 at KB BX EX PT ⊢
    clear hW0 KT
    have hgw := PT.out.lt
    generalize hGW : B.heap.size = gW at PT hgw ⊢
    clear hGW hgw
    obtain ⟨x0, x1, x2, x3, x4, x5⟩ := BX.out.six
    go_wp2_with fail
    refine (sysOK_any s a _ (hik (hv.out.keep KB.out)) hs).mono ?_
    rw [H2.out]
    rintro e W1 ⟨rfl, k1⟩
    replace KB := hik (KB.out.trans k1)
    replace BX := hik (BX.out.keep k1)
    replace EX := hik (show World.cell? _ ⟨w.heap.size + 1, 0, none⟩ = some (.int .i64 a2) ∧ World.cell? _ ⟨w.heap.size + 1, 1, none⟩ = some (.int .i64 b2) ∧ World.cell? _ ⟨w.heap.size + 2, 0, none⟩ = some (.int .i64 a3) ∧ World.cell? _ ⟨w.heap.size + 2, 1, none⟩ = some (.int .i64 b3) ∧ World.cell? _ ⟨w.heap.size + 3, 0, none⟩ = some (.int .i64 a4) ∧ World.cell? _ ⟨w.heap.size + 3, 1, none⟩ = some (.int .i64 b4) from ⟨k1.see EX.out.1, k1.see EX.out.2.1, k1.see EX.out.2.2.1, k1.see EX.out.2.2.2.1, k1.see EX.out.2.2.2.2.1, k1.see EX.out.2.2.2.2.2⟩)
    replace PT := hik (rowIs_keep PT.out k1)
    clear k1 x0 x1 x2 x3 x4 x5
    go_wp2_with fail
    refine (extsOK_any cx n capx f g _ (hik (PairV.keep hp.out KB.out)) hn).mono ?_
    rw [H3.out]
    rintro e W2 ⟨rfl, k2⟩
    replace KB := hik (KB.out.trans k2)
    replace BX := hik (BX.out.keep k2)
    replace EX := hik (show World.cell? _ ⟨w.heap.size + 1, 0, none⟩ = some (.int .i64 a2) ∧ World.cell? _ ⟨w.heap.size + 1, 1, none⟩ = some (.int .i64 b2) ∧ World.cell? _ ⟨w.heap.size + 2, 0, none⟩ = some (.int .i64 a3) ∧ World.cell? _ ⟨w.heap.size + 2, 1, none⟩ = some (.int .i64 b3) ∧ World.cell? _ ⟨w.heap.size + 3, 0, none⟩ = some (.int .i64 a4) ∧ World.cell? _ ⟨w.heap.size + 3, 1, none⟩ = some (.int .i64 b4) from ⟨k2.see EX.out.1, k2.see EX.out.2.1, k2.see EX.out.2.2.1, k2.see EX.out.2.2.2.1, k2.see EX.out.2.2.2.2.1, k2.see EX.out.2.2.2.2.2⟩)
    replace PT := hik (rowIs_keep PT.out k2)
    clear k2
    have hgl := PT.out.lt
    go_wp2_with fail
    refine (extsOK_any _ 3 3 (pk3 a2 a3 a4) (pk3 b2 b3 b4) _ (hik (pairs3r PT.out)) (by omega)).mono ?_
    rw [H4.out]
    rintro e W3 ⟨rfl, k3⟩
    replace KB := hik (KB.out.trans k3)
    replace BX := hik (BX.out.keep k3)
    replace EX := hik (show World.cell? _ ⟨w.heap.size + 1, 0, none⟩ = some (.int .i64 a2) ∧ World.cell? _ ⟨w.heap.size + 1, 1, none⟩ = some (.int .i64 b2) ∧ World.cell? _ ⟨w.heap.size + 2, 0, none⟩ = some (.int .i64 a3) ∧ World.cell? _ ⟨w.heap.size + 2, 1, none⟩ = some (.int .i64 b3) ∧ World.cell? _ ⟨w.heap.size + 3, 0, none⟩ = some (.int .i64 a4) ∧ World.cell? _ ⟨w.heap.size + 3, 1, none⟩ = some (.int .i64 b4) from ⟨k3.see EX.out.1, k3.see EX.out.2.1, k3.see EX.out.2.2.1, k3.see EX.out.2.2.2.1, k3.see EX.out.2.2.2.2.1, k3.see EX.out.2.2.2.2.2⟩)
    replace PT := hik (rowIs_keep PT.out k3)
    clear k3 hgl
    obtain ⟨x0, x1, x2, x3, x4, x5⟩ := BX.out.six
    go_wp2
    go_ret2
    exact TbC.none HC.out HM.out KB.out
  have h5 : (n : Int) = s.r := by omega
  have HC := hik (show bdc s n f g (pk3 a2 a3 a4) (pk3 b2 b3 b4) = 0 by rw [hC, if_neg (by omega)])
  obtain ⟨rr, mm, er, eq_, r1, r5, m1, m4, _⟩ := sysb_parts h2
  have hq : s.q = ((mm + 1 : Nat) : Int) := eq_
  obtain ⟨M, hMM⟩ : ∃ M, M = mm + 1 := ⟨_, rfl⟩
  rw [← hMM] at hq
  have hM5 : M ≤ 5 := by omega
  have hn5 : n ≤ 5 := by omega
  have HMq := hik (show s.q.toNat = M by rw [hq, Int.toNat_natCast])
  have HRq := hik (show s.r.toNat = n by rw [← h5, Int.toNat_natCast])
  have HN := hik (show bdn s n f g (pk3 a2 a3 a4) (pk3 b2 b3 b4) = 2 ^ M by unfold bdn; rw [HC.out, HMq.out]; rfl)
  have HV := hik (show bdv s n f g (pk3 a2 a3 a4) (pk3 b2 b3 b4) = btK s (El.eqp (elF f g) n) (elF (pk3 a2 a3 a4) (pk3 b2 b3 b4)) 3 from rfl)
  have hpE := hik (PairE.of hp.out h3)
  have HBC := hik (fun (u v : Value) (W : World) (h : Hid (SyV W s a)) (h' : Hid (PairE W cx n (elF f g))) => boundT_any s a u v M cx n capx (elF f g) (elF (pk3 a2 a3 a4) (pk3 b2 b3 b4)) W h h' H2 HMq HRq hM5 hn5)
  rw [show (elF (pk3 a2 a3 a4) (pk3 b2 b3 b4) 0).v.1 = a2 from ((cA_el h4 (i := 0) (by omega)).1).symm, show (elF (pk3 a2 a3 a4) (pk3 b2 b3 b4) 0).v.2 = b2 from ((cA_el h4 (i := 0) (by omega)).2).symm, show (elF (pk3 a2 a3 a4) (pk3 b2 b3 b4) 1).v.1 = a3 from ((cA_el h4 (i := 1) (by omega)).1).symm, show (elF (pk3 a2 a3 a4) (pk3 b2 b3 b4) 1).v.2 = b3 from ((cA_el h4 (i := 1) (by omega)).2).symm, show (elF (pk3 a2 a3 a4) (pk3 b2 b3 b4) 2).v.1 = a4 from ((cA_el h4 (i := 2) (by omega)).1).symm, show (elF (pk3 a2 a3 a4) (pk3 b2 b3 b4) 2).v.2 = b4 from ((cA_el h4 (i := 2) (by omega)).2).symm] at HBC
  have H5 := hik h5
  have HQ := hik hq
  have h32 : 2 ^ M ≤ 32 := pow5 hM5
  clear hC h2 h3 h4 eq_ er hq hMM
  have KB := hik (((((Chg.refl nob w).alloc (.cells #[.int .i64 s.r, .int .i64 s.q, .int .i64 s.p, .slice a.cA s.nA a.pA, .slice a.cB s.nB a.pB, .slice a.cC s.nC a.pC] 25)).alloc (.cells #[.int .i64 a2, .int .i64 b2] 42)).alloc (.cells #[.int .i64 a3, .int .i64 b3] 42)).alloc (.cells #[.int .i64 a4, .int .i64 b4] 42))
  have x0 : World.cell? ((((w.alloc (.cells #[.int .i64 s.r, .int .i64 s.q, .int .i64 s.p, .slice a.cA s.nA a.pA, .slice a.cB s.nB a.pB, .slice a.cC s.nC a.pC] 25)).alloc (.cells #[.int .i64 a2, .int .i64 b2] 42)).alloc (.cells #[.int .i64 a3, .int .i64 b3] 42)).alloc (.cells #[.int .i64 a4, .int .i64 b4] 42)) ⟨w.heap.size, 0, none⟩ = some (.int .i64 s.r) := by go_simp
  have x1 : World.cell? ((((w.alloc (.cells #[.int .i64 s.r, .int .i64 s.q, .int .i64 s.p, .slice a.cA s.nA a.pA, .slice a.cB s.nB a.pB, .slice a.cC s.nC a.pC] 25)).alloc (.cells #[.int .i64 a2, .int .i64 b2] 42)).alloc (.cells #[.int .i64 a3, .int .i64 b3] 42)).alloc (.cells #[.int .i64 a4, .int .i64 b4] 42)) ⟨w.heap.size, 1, none⟩ = some (.int .i64 s.q) := by go_simp
  have x2 : World.cell? ((((w.alloc (.cells #[.int .i64 s.r, .int .i64 s.q, .int .i64 s.p, .slice a.cA s.nA a.pA, .slice a.cB s.nB a.pB, .slice a.cC s.nC a.pC] 25)).alloc (.cells #[.int .i64 a2, .int .i64 b2] 42)).alloc (.cells #[.int .i64 a3, .int .i64 b3] 42)).alloc (.cells #[.int .i64 a4, .int .i64 b4] 42)) ⟨w.heap.size, 2, none⟩ = some (.int .i64 s.p) := by go_simp
  have x3 : World.cell? ((((w.alloc (.cells #[.int .i64 s.r, .int .i64 s.q, .int .i64 s.p, .slice a.cA s.nA a.pA, .slice a.cB s.nB a.pB, .slice a.cC s.nC a.pC] 25)).alloc (.cells #[.int .i64 a2, .int .i64 b2] 42)).alloc (.cells #[.int .i64 a3, .int .i64 b3] 42)).alloc (.cells #[.int .i64 a4, .int .i64 b4] 42)) ⟨w.heap.size, 3, none⟩ = some (.slice a.cA s.nA a.pA) := by go_simp
  have x4 : World.cell? ((((w.alloc (.cells #[.int .i64 s.r, .int .i64 s.q, .int .i64 s.p, .slice a.cA s.nA a.pA, .slice a.cB s.nB a.pB, .slice a.cC s.nC a.pC] 25)).alloc (.cells #[.int .i64 a2, .int .i64 b2] 42)).alloc (.cells #[.int .i64 a3, .int .i64 b3] 42)).alloc (.cells #[.int .i64 a4, .int .i64 b4] 42)) ⟨w.heap.size, 4, none⟩ = some (.slice a.cB s.nB a.pB) := by go_simp
  have x5 : World.cell? ((((w.alloc (.cells #[.int .i64 s.r, .int .i64 s.q, .int .i64 s.p, .slice a.cA s.nA a.pA, .slice a.cB s.nB a.pB, .slice a.cC s.nC a.pC] 25)).alloc (.cells #[.int .i64 a2, .int .i64 b2] 42)).alloc (.cells #[.int .i64 a3, .int .i64 b3] 42)).alloc (.cells #[.int .i64 a4, .int .i64 b4] 42)) ⟨w.heap.size, 5, none⟩ = some (.slice a.cC s.nC a.pC) := by go_simp
  have p0 : World.cell? ((((w.alloc (.cells #[.int .i64 s.r, .int .i64 s.q, .int .i64 s.p, .slice a.cA s.nA a.pA, .slice a.cB s.nB a.pB, .slice a.cC s.nC a.pC] 25)).alloc (.cells #[.int .i64 a2, .int .i64 b2] 42)).alloc (.cells #[.int .i64 a3, .int .i64 b3] 42)).alloc (.cells #[.int .i64 a4, .int .i64 b4] 42)) ⟨w.heap.size + 1, 0, none⟩ = some (.int .i64 a2) := by go_simp
  have p1 : World.cell? ((((w.alloc (.cells #[.int .i64 s.r, .int .i64 s.q, .int .i64 s.p, .slice a.cA s.nA a.pA, .slice a.cB s.nB a.pB, .slice a.cC s.nC a.pC] 25)).alloc (.cells #[.int .i64 a2, .int .i64 b2] 42)).alloc (.cells #[.int .i64 a3, .int .i64 b3] 42)).alloc (.cells #[.int .i64 a4, .int .i64 b4] 42)) ⟨w.heap.size + 1, 1, none⟩ = some (.int .i64 b2) := by go_simp
  have q0 : World.cell? ((((w.alloc (.cells #[.int .i64 s.r, .int .i64 s.q, .int .i64 s.p, .slice a.cA s.nA a.pA, .slice a.cB s.nB a.pB, .slice a.cC s.nC a.pC] 25)).alloc (.cells #[.int .i64 a2, .int .i64 b2] 42)).alloc (.cells #[.int .i64 a3, .int .i64 b3] 42)).alloc (.cells #[.int .i64 a4, .int .i64 b4] 42)) ⟨w.heap.size + 2, 0, none⟩ = some (.int .i64 a3) := by go_simp
  have q1 : World.cell? ((((w.alloc (.cells #[.int .i64 s.r, .int .i64 s.q, .int .i64 s.p, .slice a.cA s.nA a.pA, .slice a.cB s.nB a.pB, .slice a.cC s.nC a.pC] 25)).alloc (.cells #[.int .i64 a2, .int .i64 b2] 42)).alloc (.cells #[.int .i64 a3, .int .i64 b3] 42)).alloc (.cells #[.int .i64 a4, .int .i64 b4] 42)) ⟨w.heap.size + 2, 1, none⟩ = some (.int .i64 b3) := by go_simp
  have r0 : World.cell? ((((w.alloc (.cells #[.int .i64 s.r, .int .i64 s.q, .int .i64 s.p, .slice a.cA s.nA a.pA, .slice a.cB s.nB a.pB, .slice a.cC s.nC a.pC] 25)).alloc (.cells #[.int .i64 a2, .int .i64 b2] 42)).alloc (.cells #[.int .i64 a3, .int .i64 b3] 42)).alloc (.cells #[.int .i64 a4, .int .i64 b4] 42)) ⟨w.heap.size + 3, 0, none⟩ = some (.int .i64 a4) := by go_simp
  have r1 : World.cell? ((((w.alloc (.cells #[.int .i64 s.r, .int .i64 s.q, .int .i64 s.p, .slice a.cA s.nA a.pA, .slice a.cB s.nB a.pB, .slice a.cC s.nC a.pC] 25)).alloc (.cells #[.int .i64 a2, .int .i64 b2] 42)).alloc (.cells #[.int .i64 a3, .int .i64 b3] 42)).alloc (.cells #[.int .i64 a4, .int .i64 b4] 42)) ⟨w.heap.size + 3, 1, none⟩ = some (.int .i64 b4) := by go_simp
  have BX := hik (cel6 x0 x1 x2 x3 x4 x5)
  go_enter Tryz.func11, Tryz.ntmps11
  go_upto_region 1 with fail
  have EX := hik (show (World.cell? (((((w.alloc (.cells #[.int .i64 s.r, .int .i64 s.q, .int .i64 s.p, .slice a.cA s.nA a.pA, .slice a.cB s.nB a.pB, .slice a.cC s.nC a.pC] 25)).alloc (.cells #[.int .i64 a2, .int .i64 b2] 42)).alloc (.cells #[.int .i64 a3, .int .i64 b3] 42)).alloc (.cells #[.int .i64 a4, .int .i64 b4] 42))) ⟨w.heap.size + 1, 0, none⟩ = some (.int .i64 a2) ∧ World.cell? (((((w.alloc (.cells #[.int .i64 s.r, .int .i64 s.q, .int .i64 s.p, .slice a.cA s.nA a.pA, .slice a.cB s.nB a.pB, .slice a.cC s.nC a.pC] 25)).alloc (.cells #[.int .i64 a2, .int .i64 b2] 42)).alloc (.cells #[.int .i64 a3, .int .i64 b3] 42)).alloc (.cells #[.int .i64 a4, .int .i64 b4] 42))) ⟨w.heap.size + 1, 1, none⟩ = some (.int .i64 b2) ∧ World.cell? (((((w.alloc (.cells #[.int .i64 s.r, .int .i64 s.q, .int .i64 s.p, .slice a.cA s.nA a.pA, .slice a.cB s.nB a.pB, .slice a.cC s.nC a.pC] 25)).alloc (.cells #[.int .i64 a2, .int .i64 b2] 42)).alloc (.cells #[.int .i64 a3, .int .i64 b3] 42)).alloc (.cells #[.int .i64 a4, .int .i64 b4] 42))) ⟨w.heap.size + 2, 0, none⟩ = some (.int .i64 a3) ∧ World.cell? (((((w.alloc (.cells #[.int .i64 s.r, .int .i64 s.q, .int .i64 s.p, .slice a.cA s.nA a.pA, .slice a.cB s.nB a.pB, .slice a.cC s.nC a.pC] 25)).alloc (.cells #[.int .i64 a2, .int .i64 b2] 42)).alloc (.cells #[.int .i64 a3, .int .i64 b3] 42)).alloc (.cells #[.int .i64 a4, .int .i64 b4] 42))) ⟨w.heap.size + 2, 1, none⟩ = some (.int .i64 b3) ∧ World.cell? (((((w.alloc (.cells #[.int .i64 s.r, .int .i64 s.q, .int .i64 s.p, .slice a.cA s.nA a.pA, .slice a.cB s.nB a.pB, .slice a.cC s.nC a.pC] 25)).alloc (.cells #[.int .i64 a2, .int .i64 b2] 42)).alloc (.cells #[.int .i64 a3, .int .i64 b3] 42)).alloc (.cells #[.int .i64 a4, .int .i64 b4] 42))) ⟨w.heap.size + 3, 0, none⟩ = some (.int .i64 a4) ∧ World.cell? (((((w.alloc (.cells #[.int .i64 s.r, .int .i64 s.q, .int .i64 s.p, .slice a.cA s.nA a.pA, .slice a.cB s.nB a.pB, .slice a.cC s.nC a.pC] 25)).alloc (.cells #[.int .i64 a2, .int .i64 b2] 42)).alloc (.cells #[.int .i64 a3, .int .i64 b3] 42)).alloc (.cells #[.int .i64 a4, .int .i64 b4] 42))) ⟨w.heap.size + 3, 1, none⟩ = some (.int .i64 b4)) from ⟨p0, p1, q0, q1, r0, r1⟩)
  clear x0 x1 x2 x3 x4 x5 p0 p1 q0 q1 r0 r1
  generalize ((((w.alloc (.cells #[.int .i64 s.r, .int .i64 s.q, .int .i64 s.p, .slice a.cA s.nA a.pA, .slice a.cB s.nB a.pB, .slice a.cC s.nC a.pC] 25)).alloc (.cells #[.int .i64 a2, .int .i64 b2] 42)).alloc (.cells #[.int .i64 a3, .int .i64 b3] 42)).alloc (.cells #[.int .i64 a4, .int .i64 b4] 42)) = B at KB BX EX ⊢
  obtain ⟨p0, p1, q0, q1, r0, r1⟩ := EX.out
  go_upto_region 4 with fail
  have KT := hik ((Chg.refl nob B).alloc (.cells #[.int .i64 a2, .int .i64 b2, .int .i64 a3, .int .i64 b3, .int .i64 a4, .int .i64 b4] 64))
  have PT := hik (rowNn B 6 #[.int .i64 a2, .int .i64 b2, .int .i64 a3, .int .i64 b3, .int .i64 a4, .int .i64 b4] 64 rfl)
  replace KB := hik (KB.out.trans KT.out)
  replace BX := hik (BX.out.keep KT.out)
  replace EX := hik (show World.cell? _ ⟨w.heap.size + 1, 0, none⟩ = some (.int .i64 a2) ∧ World.cell? _ ⟨w.heap.size + 1, 1, none⟩ = some (.int .i64 b2) ∧ World.cell? _ ⟨w.heap.size + 2, 0, none⟩ = some (.int .i64 a3) ∧ World.cell? _ ⟨w.heap.size + 2, 1, none⟩ = some (.int .i64 b3) ∧ World.cell? _ ⟨w.heap.size + 3, 0, none⟩ = some (.int .i64 a4) ∧ World.cell? _ ⟨w.heap.size + 3, 1, none⟩ = some (.int .i64 b4) from ⟨KT.out.see EX.out.1, KT.out.see EX.out.2.1, KT.out.see EX.out.2.2.1, KT.out.see EX.out.2.2.2.1, KT.out.see EX.out.2.2.2.2.1, KT.out.see EX.out.2.2.2.2.2⟩)
  clear p0 p1 q0 q1 r0 r1
  generalize hW0 : B.alloc (.cells #[.int .i64 a2, .int .i64 b2, .int .i64 a3, .int .i64 b3, .int .i64 a4, .int .i64 b4] 64) = W0 at KB BX EX PT ⊢
  clear hW0 KT
  have hgw := PT.out.lt
  generalize hGW : B.heap.size = gW at PT hgw ⊢
  clear hGW hgw
  obtain ⟨x0, x1, x2, x3, x4, x5⟩ := BX.out.six
  go_wp2_with fail
  refine (sysOK_any s a _ (hik (hv.out.keep KB.out)) hs).mono ?_
  rw [H2.out]
  rintro e W1 ⟨rfl, k1⟩
  replace KB := hik (KB.out.trans k1)
  replace BX := hik (BX.out.keep k1)
  replace EX := hik (show World.cell? _ ⟨w.heap.size + 1, 0, none⟩ = some (.int .i64 a2) ∧ World.cell? _ ⟨w.heap.size + 1, 1, none⟩ = some (.int .i64 b2) ∧ World.cell? _ ⟨w.heap.size + 2, 0, none⟩ = some (.int .i64 a3) ∧ World.cell? _ ⟨w.heap.size + 2, 1, none⟩ = some (.int .i64 b3) ∧ World.cell? _ ⟨w.heap.size + 3, 0, none⟩ = some (.int .i64 a4) ∧ World.cell? _ ⟨w.heap.size + 3, 1, none⟩ = some (.int .i64 b4) from ⟨k1.see EX.out.1, k1.see EX.out.2.1, k1.see EX.out.2.2.1, k1.see EX.out.2.2.2.1, k1.see EX.out.2.2.2.2.1, k1.see EX.out.2.2.2.2.2⟩)
  replace PT := hik (rowIs_keep PT.out k1)
  clear k1 x0 x1 x2 x3 x4 x5
  go_wp2_with fail
  refine (extsOK_any cx n capx f g _ (hik (PairV.keep hp.out KB.out)) hn).mono ?_
  rw [H3.out]
  rintro e W2 ⟨rfl, k2⟩
  replace KB := hik (KB.out.trans k2)
  replace BX := hik (BX.out.keep k2)
  replace EX := hik (show World.cell? _ ⟨w.heap.size + 1, 0, none⟩ = some (.int .i64 a2) ∧ World.cell? _ ⟨w.heap.size + 1, 1, none⟩ = some (.int .i64 b2) ∧ World.cell? _ ⟨w.heap.size + 2, 0, none⟩ = some (.int .i64 a3) ∧ World.cell? _ ⟨w.heap.size + 2, 1, none⟩ = some (.int .i64 b3) ∧ World.cell? _ ⟨w.heap.size + 3, 0, none⟩ = some (.int .i64 a4) ∧ World.cell? _ ⟨w.heap.size + 3, 1, none⟩ = some (.int .i64 b4) from ⟨k2.see EX.out.1, k2.see EX.out.2.1, k2.see EX.out.2.2.1, k2.see EX.out.2.2.2.1, k2.see EX.out.2.2.2.2.1, k2.see EX.out.2.2.2.2.2⟩)
  replace PT := hik (rowIs_keep PT.out k2)
  clear k2
  have hgl := PT.out.lt
  go_wp2_with fail
  refine (extsOK_any _ 3 3 (pk3 a2 a3 a4) (pk3 b2 b3 b4) _ (hik (pairs3r PT.out)) (by omega)).mono ?_
  rw [H4.out]
  rintro e W3 ⟨rfl, k3⟩
  replace KB := hik (KB.out.trans k3)
  replace BX := hik (BX.out.keep k3)
  replace EX := hik (show World.cell? _ ⟨w.heap.size + 1, 0, none⟩ = some (.int .i64 a2) ∧ World.cell? _ ⟨w.heap.size + 1, 1, none⟩ = some (.int .i64 b2) ∧ World.cell? _ ⟨w.heap.size + 2, 0, none⟩ = some (.int .i64 a3) ∧ World.cell? _ ⟨w.heap.size + 2, 1, none⟩ = some (.int .i64 b3) ∧ World.cell? _ ⟨w.heap.size + 3, 0, none⟩ = some (.int .i64 a4) ∧ World.cell? _ ⟨w.heap.size + 3, 1, none⟩ = some (.int .i64 b4) from ⟨k3.see EX.out.1, k3.see EX.out.2.1, k3.see EX.out.2.2.1, k3.see EX.out.2.2.2.1, k3.see EX.out.2.2.2.2.1, k3.see EX.out.2.2.2.2.2⟩)
  replace PT := hik (rowIs_keep PT.out k3)
  clear k3 hgl
  
  obtain ⟨x0, x1, x2, x3, x4, x5⟩ := BX.out.six
  rw [← H5.out] at x0
  have hnn : ((n : Int) != (n : Int)) = false := by simp
  rw [HQ.out] at x1
  have z0 := PT.out.cell (i := 0) (by omega)
  have z1 := PT.out.cell (i := 1) (by omega)
  have z2 := PT.out.cell (i := 2) (by omega)
  have z3 := PT.out.cell (i := 3) (by omega)
  have z4 := PT.out.cell (i := 4) (by omega)
  have z5 := PT.out.cell (i := 5) (by omega)
  simp only [Array.getD, List.size_toArray, List.length_cons, List.length_nil] at z0 z1 z2 z3 z4 z5
  simp at z0 z1 z2 z3 z4 z5
  go_wp2_with fail
  clear x0 x1 x2 x3 x4 x5 z0 z1 z2 z3 z4 z5 hnn
  refine (HBC.out _ _ _ (hik (hv.out.keep KB.out)) (hik (PairE.keep hpE.out KB.out))).mono ?_
  rintro e W6 ⟨b6, rfl, hb6, r6, k6⟩
  have R6 := hik r6
  have K6 := hik (KB.out.trans k6)
  have HB6 := hik (Nat.le_trans KB.out.size hb6)
  clear r6 k6 hb6
  go_wp2
  go_ret2
  exact TbC.some HC.out HN.out (Nat.le_refl _) (Int.le_trans (Int.ofNat_le.2 h32) (by decide)) ((RowE.own R6.out HB6.out).congr (fun i _ => by rw [HV.out]; exact ⟨rfl, rfl⟩)) K6.out

end Go.Proofs.YtmnhhjblhildnaaGreatDoor
