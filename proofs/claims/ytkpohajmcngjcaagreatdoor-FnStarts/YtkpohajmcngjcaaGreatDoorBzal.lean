/- Several texts in one: The law's drawn system: contract. Conditions: those of each theorem. · What the program's bound table answers: a contract. Conditions: a right system, right elements, as many as its rows. · What the program's BoundTable answers: a contract. Conditions: rows that can be read, lengths of at most 2 to the 40. · The law FnStarts: its walk. Conditions: slices of bytes that can be read; the two tables lie. -/
import Derived.Test.YtkpohajmcngjcaaGreatDoorBzak
import Derived.Test.YtkpohajmcngjcaaGreatDoorBzbn
import Derived.Test.YtkpohajmcngjcaaGreatDoorBzau
import Derived.Test.YtkpohajmcngjcaaGreatDoorBzav
import Derived.Deep.DeepCutAuto
import Derived.Test.YtkpohajmcngjcaaGreatDoorBzaq
import Derived.Test.YtkpohajmcngjcaaGreatDoorBzan
import Derived.Test.YtkpohajmcngjcaaGreatDoorBzas
import Derived.Test.YtkpohajmcngjcaaGreatDoorBzbd
import Derived.Test.YtkpohajmcngjcaaGreatDoorBzbo
import Derived.Test.YtkpohajmcngjcaaGreatDoorBzbp
import Derived.Test.YtkpohajmcngjcaaGreatDoorBzbi
import Derived.Test.YtkpohajmcngjcaaGreatDoorBzbq
import Derived.Test.YtkpohajmcngjcaaGreatDoorBzbk
import Derived.Test.YtkpohajmcngjcaaGreatDoorBzao
namespace Go.Proofs.YtkpohajmcngjcaaGreatDoor
open Go.ChangeShapes Go.WideShapes Go.ChangeAt Go.RowKit
set_option linter.unusedVariables false
set_option maxRecDepth 100000
set_option linter.unusedSimpArgs false

/-- A system out of a code. -/
def NewY (w : World) (e : Ending) (w' : World) : Prop := ∃ (s : Sy) (y : SyA), e = .returned (.agg #[.int .i64 s.r, .int .i64 s.q, .int .i64 s.p, .slice y.cA s.nA y.pA, .slice y.cB s.nB y.pB, .slice y.cC s.nC y.pC]) ∧ SyV w' s y ∧ sysb s = true ∧ s.r ≤ 2 ∧ s.q ≤ 3 ∧ Chg nob w w'
set_option maxHeartbeats 4000000 in
theorem sysDrawn_any (c : Option Addr) (len cap : Nat) (w : World) (h : Bytes w c len) (hl : (len : Int) ≤ 9223372036854775807) :
    Calls Tryz.prog 20 #[.slice c len cap] w fun e w' => NewY w e w' := by
  have K0 := hik ((Chg.refl nob w).alloc (.cells #[.int .i64 0, .int .i64 0, .int .i64 0, .slice none 0 0, .slice none 0 0, .slice none 0 0] 40))
  have A0 := hik (row6_new w (.int .i64 0) (.int .i64 0) (.int .i64 0) (.slice none 0 0) (.slice none 0 0) (.slice none 0 0) 40)
  go_enter Tryz.func20, Tryz.ntmps20
  go_wp2_with fail
  refine (l00Source_any c len cap _ (h.below K0.out.belowAll) hl).mono ?_
  rintro e W1 ⟨rfl, hs, hb⟩
  have k1 := chg_of_below hb
  have A1 := hik (rowIs_keep A0.out k1)
  have K1 := hik (K0.out.trans k1)
  have S1 := hik hs
  have l0 : w.heap.size < (w.alloc (.cells #[.int .i64 0, .int .i64 0, .int .i64 0, .slice none 0 0, .slice none 0 0, .slice none 0 0] 40)).heap.size := A0.out.lt
  clear hs hb k1 A0 K0
  generalize hE : w.alloc (.cells #[.int .i64 0, .int .i64 0, .int .i64 0, .slice none 0 0, .slice none 0 0, .slice none 0 0] 40) = W0 at S1 l0 ⊢
  clear hE
  have l1 : W0.heap.size < W1.heap.size := S1.out.lt
  go_wp2_with fail
  refine (sysD_any 0 _ _ S1.out (by omega)).mono ?_
  rintro e W2 ⟨s, y, rfl, hv, hok, hr, hq, hu, _, k2⟩
  have A2 := hik (rowIs_chg A1.out k2 (by omega))
  have K2 := hik (K1.out.near k2 (fun i e => by have e : i = W0.heap.size := e; omega))
  have V2 := hik hv
  have O2 := hik hok
  have U2 := hik hu
  clear hv hok hu k2 A1 K1 S1
  have z0 := A2.out.cell (i := 0) (by omega)
  have zf0 := A2.out.frozen 0
  have z1 := A2.out.cell (i := 1) (by omega)
  have zf1 := A2.out.frozen 1
  have z2 := A2.out.cell (i := 2) (by omega)
  have zf2 := A2.out.frozen 2
  have z3 := A2.out.cell (i := 3) (by omega)
  have zf3 := A2.out.frozen 3
  have z4 := A2.out.cell (i := 4) (by omega)
  have zf4 := A2.out.frozen 4
  have z5 := A2.out.cell (i := 5) (by omega)
  have zf5 := A2.out.frozen 5
  simp only [pv6] at z0 z1 z2 z3 z4 z5
  have QQ := hik (((((((Chg.refl (fun x => x = w.heap.size) W2).setCell (p := ⟨w.heap.size, 0, none⟩) (fun _ => rfl) (.int .i64 s.r)).setCell (p := ⟨w.heap.size, 1, none⟩) (fun _ => rfl) (.int .i64 s.q)).setCell (p := ⟨w.heap.size, 2, none⟩) (fun _ => rfl) (.int .i64 s.p)).setCell (p := ⟨w.heap.size, 3, none⟩) (fun _ => rfl) (.slice y.cA s.nA y.pA)).setCell (p := ⟨w.heap.size, 4, none⟩) (fun _ => rfl) (.slice y.cB s.nB y.pB)).setCell (p := ⟨w.heap.size, 5, none⟩) (fun _ => rfl) (.slice y.cC s.nC y.pC))
  have ZZ := hik (row6_all A2.out (.int .i64 s.r) (.int .i64 s.q) (.int .i64 s.p) (.slice y.cA s.nA y.pA) (.slice y.cB s.nB y.pB) (.slice y.cC s.nC y.pC))
  have u0 := ZZ.out.cell (i := 0) (by omega)
  have u1 := ZZ.out.cell (i := 1) (by omega)
  have u2 := ZZ.out.cell (i := 2) (by omega)
  have u3 := ZZ.out.cell (i := 3) (by omega)
  have u4 := ZZ.out.cell (i := 4) (by omega)
  have u5 := ZZ.out.cell (i := 5) (by omega)
  simp only [pv6] at u0 u1 u2 u3 u4 u5
  go_wp2
  exact bodyPost_ret (v := .agg #[.int .i64 s.r, .int .i64 s.q, .int .i64 s.p, .slice y.cA s.nA y.pA, .slice y.cB s.nB y.pB, .slice y.cC s.nC y.pC]) (by simp [results, Tryz.results20, go_sem, u0, u1, u2, u3, u4, u5]) rfl ⟨s, y, rfl, V2.out.upc U2.out QQ.out (fun i hi e => by have e : i = w.heap.size := e; omega), O2.out, hr, hq, K2.out.near QQ.out (fun i e => by have e : i = w.heap.size := e; omega)⟩

end Go.Proofs.YtkpohajmcngjcaaGreatDoor

namespace Go.Proofs.YtkpohajmcngjcaaGreatDoor
open Go.ChangeShapes Go.WideShapes Go.ChangeAt Go.RowKit
set_option linter.unusedVariables false
set_option maxRecDepth 100000
set_option linter.unusedSimpArgs false

/-- Three elements that lie in a block. -/
def Wt3 (W : World) (g : Nat) (r : Nat → El) : Prop := g < W.heap.size ∧ ∀ i, i < 3 → W.cell? ⟨g, i * 2, none⟩ = some (.int .i64 (r i).v.1) ∧ W.cell? ⟨g, i * 2 + 1, none⟩ = some (.int .i64 (r i).v.2)
theorem Wt3.chg {P : Nat → Prop} {W W' : World} {g : Nat} {r : Nat → El} (h : Wt3 W g r) (k : Chg P W W') (hp : ¬ P g) : Wt3 W' g r :=
  ⟨Nat.lt_of_lt_of_le h.1 k.size, fun i hi => by rw [k.cell (p := ⟨g, i * 2, none⟩) h.1 hp, k.cell (p := ⟨g, i * 2 + 1, none⟩) h.1 hp]; exact h.2 i hi⟩
theorem Wt3.keep {W W' : World} {g : Nat} {r : Nat → El} (h : Wt3 W g r) (k : Chg nob W W') : Wt3 W' g r := h.chg k (fun x => x)
theorem Wt3.other {W : World} {g b : Nat} {r : Nat → El} (h : Wt3 W g r) (hne : g ≠ b) (o o' : Nat) (u v : Value) : Wt3 ((W.setCell ⟨b, o, none⟩ u).setCell ⟨b, o', none⟩ v) g r :=
  ⟨by simpa using h.1, fun i hi => ⟨look_two hne (h.2 i hi).1 o o' u v, look_two hne (h.2 i hi).2 o o' u v⟩⟩
theorem Wt3.new (W : World) (r : Nat → El) (t : TypeId) : Wt3 (W.alloc (.cells #[.int .i64 (r 0).v.1, .int .i64 (r 0).v.2, .int .i64 (r 1).v.1, .int .i64 (r 1).v.2, .int .i64 (r 2).v.1, .int .i64 (r 2).v.2] t)) W.heap.size r :=
  ⟨by simp, fun i hi => by rcases (show i = 0 ∨ i = 1 ∨ i = 2 by omega) with rfl | rfl | rfl <;> simp⟩

set_option maxHeartbeats 8000000 in
theorem boundT_any (s : Sy) (a : SyA) (v0 v2 : Value) (M : Nat) (cx : Option Addr) (rx capx : Nat) (p : Nat → El) (r : Nat → El) (w : World) (hv : Hid (SyV w s a)) (hp : Hid (PairE w cx rx p)) (hs : Hid (sysb s = true)) (hM : Hid (s.q.toNat = M)) (hR : Hid (s.r.toNat = rx)) (hM5 : M ≤ 5) (hrx : rx ≤ 5) :
    Calls Tryz.prog 52 #[.agg #[v0, .int .i64 (M : Int), v2, .slice a.cA s.nA a.pA, .slice a.cB s.nB a.pB, .slice a.cC s.nC a.pC], .slice cx rx capx, .agg #[.int .i64 (r 0).v.1, .int .i64 (r 0).v.2, .int .i64 (r 1).v.1, .int .i64 (r 1).v.2, .int .i64 (r 2).v.1, .int .i64 (r 2).v.2]] w fun e w' => TbAns w (2 ^ M) (btK s (El.eqp p rx) r 3) e w' := by
  obtain ⟨i0, hi, hz0, hz1, hz2⟩ := info_parts infoExt
  have HI := hik hi
  have HZ0 := hik hz0
  have HZ1 := hik hz1
  obtain ⟨N, hN⟩ : ∃ N, N = 2 ^ M := ⟨_, rfl⟩
  have hN32 : N ≤ 32 := by rw [hN]; exact pow5 hM5
  have hb16 : i0.bytes * N ≤ 281474976710656 := by rw [hz2]; omega
  have hwN : (2 : Int) ^ M = (N : Int) := by rw [hN]; exact (pow_cast M).symm
  rw [← hN]
  have HN := hik hN
  have HBT := hik (show ∀ A : Nat → El, (∀ i, i < 2 ^ rx → A i = El.eqp p rx i) → ∀ k j, btK s A r k j = btK s (El.eqp p rx) r k j from fun A hA k j => btK_congr (fun k i hi => by
    obtain ⟨ri, ci, er, ec, hri, hci, u0, u1⟩ := win_col hs.out hi
    rw [er, Int.toNat_natCast]
    exact hA ri (by rw [hR.out] at hri; exact hri)) k j)
  clear hN hi hz0 hz1 hz2
  have K0 := hik (((Chg.refl nob w).alloc (.cells #[v0, .int .i64 (M : Int), v2, .slice a.cA s.nA a.pA, .slice a.cB s.nB a.pB, .slice a.cC s.nC a.pC] 40)).alloc (.cells #[.int .i64 (r 0).v.1, .int .i64 (r 0).v.2, .int .i64 (r 1).v.1, .int .i64 (r 1).v.2, .int .i64 (r 2).v.1, .int .i64 (r 2).v.2] 91))
  have x0 : World.cell? ((w.alloc (.cells #[v0, .int .i64 (M : Int), v2, .slice a.cA s.nA a.pA, .slice a.cB s.nB a.pB, .slice a.cC s.nC a.pC] 40)).alloc (.cells #[.int .i64 (r 0).v.1, .int .i64 (r 0).v.2, .int .i64 (r 1).v.1, .int .i64 (r 1).v.2, .int .i64 (r 2).v.1, .int .i64 (r 2).v.2] 91)) ⟨w.heap.size, 0, none⟩ = some v0 := by go_simp
  have x1 : World.cell? ((w.alloc (.cells #[v0, .int .i64 (M : Int), v2, .slice a.cA s.nA a.pA, .slice a.cB s.nB a.pB, .slice a.cC s.nC a.pC] 40)).alloc (.cells #[.int .i64 (r 0).v.1, .int .i64 (r 0).v.2, .int .i64 (r 1).v.1, .int .i64 (r 1).v.2, .int .i64 (r 2).v.1, .int .i64 (r 2).v.2] 91)) ⟨w.heap.size, 1, none⟩ = some (.int .i64 (M : Int)) := by go_simp
  have x2 : World.cell? ((w.alloc (.cells #[v0, .int .i64 (M : Int), v2, .slice a.cA s.nA a.pA, .slice a.cB s.nB a.pB, .slice a.cC s.nC a.pC] 40)).alloc (.cells #[.int .i64 (r 0).v.1, .int .i64 (r 0).v.2, .int .i64 (r 1).v.1, .int .i64 (r 1).v.2, .int .i64 (r 2).v.1, .int .i64 (r 2).v.2] 91)) ⟨w.heap.size, 2, none⟩ = some v2 := by go_simp
  have x3 : World.cell? ((w.alloc (.cells #[v0, .int .i64 (M : Int), v2, .slice a.cA s.nA a.pA, .slice a.cB s.nB a.pB, .slice a.cC s.nC a.pC] 40)).alloc (.cells #[.int .i64 (r 0).v.1, .int .i64 (r 0).v.2, .int .i64 (r 1).v.1, .int .i64 (r 1).v.2, .int .i64 (r 2).v.1, .int .i64 (r 2).v.2] 91)) ⟨w.heap.size, 3, none⟩ = some (.slice a.cA s.nA a.pA) := by go_simp
  have x4 : World.cell? ((w.alloc (.cells #[v0, .int .i64 (M : Int), v2, .slice a.cA s.nA a.pA, .slice a.cB s.nB a.pB, .slice a.cC s.nC a.pC] 40)).alloc (.cells #[.int .i64 (r 0).v.1, .int .i64 (r 0).v.2, .int .i64 (r 1).v.1, .int .i64 (r 1).v.2, .int .i64 (r 2).v.1, .int .i64 (r 2).v.2] 91)) ⟨w.heap.size, 4, none⟩ = some (.slice a.cB s.nB a.pB) := by go_simp
  have x5 : World.cell? ((w.alloc (.cells #[v0, .int .i64 (M : Int), v2, .slice a.cA s.nA a.pA, .slice a.cB s.nB a.pB, .slice a.cC s.nC a.pC] 40)).alloc (.cells #[.int .i64 (r 0).v.1, .int .i64 (r 0).v.2, .int .i64 (r 1).v.1, .int .i64 (r 1).v.2, .int .i64 (r 2).v.1, .int .i64 (r 2).v.2] 91)) ⟨w.heap.size, 5, none⟩ = some (.slice a.cC s.nC a.pC) := by go_simp
  have BX := hik (cel6 x0 x1 x2 x3 x4 x5)
  have WX := hik (Wt3.new (w.alloc (.cells #[v0, .int .i64 (M : Int), v2, .slice a.cA s.nA a.pA, .slice a.cB s.nB a.pB, .slice a.cC s.nC a.pC] 40)) r 91)
  have hsz : (w.alloc (.cells #[v0, .int .i64 (M : Int), v2, .slice a.cA s.nA a.pA, .slice a.cB s.nB a.pB, .slice a.cC s.nC a.pC] 40)).heap.size = w.heap.size + 1 := by simp
  rw [hsz] at WX
  have hz := (zero_of_info infoQb).1
  clear x0 x1 x2 x3 x4 x5 hsz
  go_enter Tryz.func52, Tryz.ntmps52
  go_upto_region 1 with fail
  generalize (w.alloc (.cells #[v0, .int .i64 (M : Int), v2, .slice a.cA s.nA a.pA, .slice a.cB s.nB a.pB, .slice a.cC s.nC a.pC] 40)).alloc (.cells #[.int .i64 (r 0).v.1, .int .i64 (r 0).v.2, .int .i64 (r 1).v.1, .int .i64 (r 1).v.2, .int .i64 (r 2).v.1, .int .i64 (r 2).v.2] 91) = B at K0 BX WX ⊢
  generalize hgw : w.heap.size + 1 = gW at WX ⊢
  have HGW := hik hgw
  clear hgw
  go_wp2_with fail
  refine (eqTable_any cx rx capx p _ (hik (PairE.keep hp.out K0.out)) (by omega)).mono ?_
  rintro e W1 ⟨A, rfl, hA, k1⟩
  have HA := hik hA
  have K1 := hik (K0.out.trans k1)
  replace BX := hik (BX.out.keep k1)
  replace WX := hik (WX.out.keep k1)
  have hw1 : gW < W1.heap.size := WX.out.1
  clear k1 hA K0
  have HAC := hik (Cub.new W1 0 zE)
  have BX2 := hik (BX.out.keep ((Chg.refl nob W1).alloc (.cells (cb 0 zE) 97)))
  have WX2 := hik (WX.out.keep ((Chg.refl nob W1).alloc (.cells (cb 0 zE) 97)))
  have hbw : w.heap.size < W1.heap.size := BX.out.1
  go_wp2_with ((with_reducible refine wpList_store_cub (s := 2 ^ rx) (t := A) (.tmp 7) (.tmp 15) rfl rfl W1.heap.size ?hx ?hy HAC.out ?_); (case hx => rfl); (case hy => rfl); intro W2 r2 g2; have C2 := hik r2; have K2 := hik (Chg.near (K1.out.alloc (.cells (cb 0 zE) 97)) g2 (fun i e => by omega)); have BX3 := hik (BX2.out.chg g2 (fun e => by omega)); have WX3 := hik (WX2.out.chg g2 (fun e => by omega)); obtain ⟨x0, x1, x2, x3, x4, x5⟩ := BX3.out.six; clear r2 g2)
  clear K1 BX WX BX2 WX2 HAC hz
  generalize hgc : W1.heap.size = gC at C2 hw1 hbw ⊢
  clear hgc
  refine (colCount_any M (by omega) _ _ _ _ _ _).mono ?_
  rintro e W3 ⟨rfl, k3⟩
  have C3 := hik (C2.out.keep k3)
  have K3 := hik (K2.out.trans k3)
  replace BX3 := hik (BX3.out.keep k3)
  replace WX3 := hik (WX3.out.keep k3)
  have hc3 : gC < W3.heap.size := C3.out.lt
  clear k3 C2 K2 x0 x1 x2 x3 x4 x5
  go_wp2_with (at_make; refine wpList_make_pairs _ rfl (.tmp 17) (.tmp 17) 33 rfl 62 i0 Tryz.underlying33 HI.out HZ0.out HZ1.out .i64 .i64 _ _ N rfl rfl (by first | rfl | exact hwN) (by first | rfl | exact hwN) hb16 (by omega) ?_)
  intro W4 hr4 hk4
  have O4 := hik (show RowE W4 W3.heap.size N (fun _ => El.zr) from World.rowIs.congr hr4 (fun i _ => by unfold pf cA cB; split <;> rfl))
  have C4 := hik (C3.out.keep hk4)
  have K4 := hik (K3.out.trans hk4)
  have BX4 := hik (BX3.out.keep hk4)
  have WX4 := hik (WX3.out.keep hk4)
  obtain ⟨x0, x1, x2, x3, x4, x5⟩ := BX4.out.six
  clear hr4 hk4
  have hlo := K3.out.size
  clear C3 K3 BX3 WX3 hb16 HI HZ0 HZ1 hwN
  generalize hgo : W3.heap.size = gO at O4 hc3 hlo ⊢
  clear hgo
  go_wp2_with fail
  refine (matrices_any _ _ _ a.cA a.cB a.cC s.nA a.pA s.nB a.pB s.nC a.pC _).mono ?_
  rintro e W5 ⟨rfl, k5⟩
  have O5 := hik (O4.out.keep k5)
  have C5 := hik (C4.out.keep k5)
  have G5 := hik (K4.out.trans k5)
  have X5 := hik (WX4.out.keep k5)
  clear k5 O4 C4 K4 WX4 BX4 x0 x1 x2 x3 x4 x5
  have hgwlt : w.heap.size < gW := by have := HGW.out; omega
  go_wp2
  go_loopw [21] (fun i W => ∃ k : Nat, k ≤ 3 ∧ i = .int .i64 k ∧ Hid (RowE W gO N (btK s A r k)) ∧ Hid (Cub W gC (2 ^ rx) A) ∧ Hid (Wt3 W gW r) ∧ Hid (Chg nob w W)) (fun i _ => 3 - (intOf i).toNat)
  case atStart => exact ⟨0, by omega, rfl, O5, C5, X5, G5⟩
  case round =>
    clear O5 C5 X5 G5
    obtain ⟨k, hk, rfl, HO, HC, HX, HG⟩ := hrel
    rename World => wo
    by_cases hlt : k < 3
    · have hkn : ((k : Nat) : Int) < 3 := by omega
      have ix := fun W => index3_at k hlt a.cA a.cB a.cC s.nA a.pA s.nB a.pB s.nC a.pC W
      have HENT := hik (hv.out.at_ k)
      have HWIN := hik (fun (i : Nat) (hi : i < pk3 s.nA s.nB s.nC k) => win_col hs.out (k := k) hi)
      have hn2 : pk3 s.nA s.nB s.nC k ≤ 200 := by have := (sysb_ent hs.out).1; exact pk3_le this.1 this.2.1 this.2.2 k
      have HNX := hik (show btK s A r (k + 1) = btE A (r k) (pk3 s.XA s.XB s.XC k) (btK s A r k) (pk3 s.nA s.nB s.nC k) from rfl)
      have HRB := hik (show ∀ W, Wt3 W gW r → W.cell? ⟨gW, k * 2, none⟩ = some (.int .i64 (r k).v.1) ∧ W.cell? ⟨gW, k * 2 + 1, none⟩ = some (.int .i64 (r k).v.2) from fun W h => h.2 k hlt)
      generalize pk3 a.cA a.cB a.cC k = cK at ix HENT
      generalize pk3 s.nA s.nB s.nC k = nK at ix HENT HWIN HNX hn2
      generalize pk3 a.pA a.pB a.pC k = pK at ix
      generalize pk3 s.XA s.XB s.XC k = X at HENT HWIN HNX
      generalize hRK : r k = RK at HNX HRB
      generalize hBK : btK s A r k = TK at HNX HO
      clear hRK hBK
      go_wp2
      clear ix
      go_loopw [27] (fun i W => ∃ j : Nat, j ≤ nK ∧ i = .int .i64 j ∧ Hid (RowE W gO N (btE A RK X TK j)) ∧ Hid (Cub W gC (2 ^ rx) A) ∧ Hid (Wt3 W gW r) ∧ Hid (Chg nob w W)) (fun i _ => nK - (intOf i).toNat)
      case atStart => exact ⟨0, Nat.zero_le _, rfl, HO, HC, HX, HG⟩
      case round =>
        clear HO HC HX HG
        obtain ⟨j, hj, rfl, HO, HC, HX, HG⟩ := hrel
        rename World => wi
        by_cases hlj : j < nK
        · have hjn : ((j : Nat) : Int) < nK := by omega
          obtain ⟨xb, xo, rfl, hxb, c0, c1, c2⟩ := (HENT.out.keep HG.out) j hlj
          obtain ⟨ri, ci, er, ec, hri, hci, u0, u1⟩ := HWIN.out j hlj
          rw [hR.out] at hri
          rw [hM.out, ← HN.out] at hci
          rw [er] at c0
          rw [ec] at c1
          rw [← El.ofi_v (by omega) u1] at c2
          have hri64 : ri < 64 := by have := pow5 hrx; omega
          have HST := hik (show ∀ z, btE A RK X TK (j + 1) z = upE (btE A RK X TK j) ci (El.ad (btE A RK X TK j ci) (El.ml (El.ml RK (A ri)) (El.ofi (X j).2.2))) z from fun z => by
            show (if z = (X j).2.1.toNat then El.ad (btE A RK X TK j z) (El.ml RK (El.ml (El.ofi (X j).2.2) (A (X j).1.toNat))) else btE A RK X TK j z) = _
            rw [er, ec, Int.toNat_natCast, Int.toNat_natCast]
            unfold upE
            by_cases q : z = ci
            · rw [if_pos q, if_pos q, q, El.ml_assoc, El.ml_comm (A ri)]
            · rw [if_neg q, if_neg q])
          have hV2 := El.ofi_w (X j).2.2
          clear er ec u0 u1
          generalize El.ofi (X j).2.2 = V at c2 HST hV2
          generalize hTT : btE A RK X TK j = TT at HO HST
          clear hTT
          have hml : ∀ W, Calls Tryz.prog 60 #[.agg #[.int .i64 (El.ml RK (A ri)).v.1, .int .i64 (El.ml RK (A ri)).v.2], .agg #[.int .i64 V.v.1, .int .i64 0]] W fun e w' => e = .returned (.agg #[.int .i64 (El.ml (El.ml RK (A ri)) V).v.1, .int .i64 (El.ml (El.ml RK (A ri)) V).v.2]) ∧ Chg nob W w' := fun W => by
            have h := ml_el (El.ml RK (A ri)) V W
            rw [hV2] at h
            exact h
          clear hV2
          have KB := hik ((Chg.refl nob wi).alloc (.cells #[.int .i64 (ri : Int), .int .i64 (ci : Int), .int .i64 V.v.1] 106))
          have p0 := KB.out.see (HC.out.c0 hri64)
          have p1 := KB.out.see (HC.out.c1 hri64)
          have q0 := (HRB.out _ (HX.out.keep KB.out)).1
          have q1 := (HRB.out _ (HX.out.keep KB.out)).2
          have e0 : World.cell? (wi.alloc (.cells #[.int .i64 (ri : Int), .int .i64 (ci : Int), .int .i64 V.v.1] 106)) ⟨wi.heap.size, 0, none⟩ = some (.int .i64 (ri : Int)) := by go_simp
          have e1 : World.cell? (wi.alloc (.cells #[.int .i64 (ri : Int), .int .i64 (ci : Int), .int .i64 V.v.1] 106)) ⟨wi.heap.size, 1, none⟩ = some (.int .i64 (ci : Int)) := by go_simp
          have e2 : World.cell? (wi.alloc (.cells #[.int .i64 (ri : Int), .int .i64 (ci : Int), .int .i64 V.v.1] 106)) ⟨wi.heap.size, 2, none⟩ = some (.int .i64 V.v.1) := by go_simp
          replace HO := hik (HO.out.keep KB.out)
          replace HC := hik (HC.out.keep KB.out)
          replace HX := hik (HX.out.keep KB.out)
          replace HG := hik (HG.out.trans KB.out)
          have hi1 : (ri : Int) < 64 := by omega
          have hciN : ((ci : Nat) : Int) < N := by omega
          go_upto_region 9 with fail
          clear c0 c1 c2
          generalize wi.alloc (.cells #[.int .i64 (ri : Int), .int .i64 (ci : Int), .int .i64 V.v.1] 106) = W0 at p0 p1 q0 q1 e0 e1 e2 HO HC HX HG KB ⊢
          have E1 := hik e1
          have E2 := hik e2
          clear KB e1 e2
          go_cut [13] (fun p W => ∃ g8 : Nat, p = .pointer (some ⟨g8, 0, none⟩) ∧ Hid (W0.heap.size ≤ g8) ∧ Hid (ElB W g8 (El.ml RK (A ri))) ∧ Hid (Chg nob W0 W))
          case first =>
            have KW := hik ((Chg.refl nob W0).drew1)
            have SA := hik (fun (WW : World) (kW : Chg nob W0 WW) => (show (WW.cell? ⟨wi.heap.size, 0, none⟩ = some (.int .i64 (ri : Int)) ∧ WW.cell? ⟨gC, 1 + ri * 2, none⟩ = some (.int .i64 (A ri).v.1) ∧ WW.cell? ⟨gC, 1 + ri * 2 + 1, none⟩ = some (.int .i64 (A ri).v.2) ∧ WW.cell? ⟨gW, k * 2, none⟩ = some (.int .i64 RK.v.1) ∧ WW.cell? ⟨gW, k * 2 + 1, none⟩ = some (.int .i64 RK.v.2)) from ⟨kW.see e0, kW.see p0, kW.see p1, kW.see q0, kW.see q1⟩))
            refine wp_region_held_drew (S := fun w' => w'.cell? ⟨wi.heap.size, 0, none⟩ = some (.int .i64 (ri : Int)) ∧ w'.cell? ⟨gC, 1 + ri * 2, none⟩ = some (.int .i64 (A ri).v.1) ∧ w'.cell? ⟨gC, 1 + ri * 2 + 1, none⟩ = some (.int .i64 (A ri).v.2) ∧ w'.cell? ⟨gW, k * 2, none⟩ = some (.int .i64 RK.v.1) ∧ w'.cell? ⟨gW, k * 2 + 1, none⟩ = some (.int .i64 RK.v.2)) (by kernel_rfl) ⟨e0, p0, p1, q0, q1⟩ (fun hHeld => ?_)
            refine wpAnyH_take (i := 0) (v := ?_) rfl (by kernel_rfl) (by kernel_rfl) (by kernel_rfl) (fun _ _ _ h => h) (Or.inl ⟨by rfl, ?_⟩) (by assumption) ?_
            rotate_left 1
            · (intro w' hSw; (try dsimp only at hSw); go_simp; try with_reducible rfl)
            try simp only [Act.put, List.setIfInBounds_toArray, List.set_cons_zero, List.set_cons_succ, List.getElem_toArray, List.getElem_cons_zero, List.getElem_cons_succ]
            refine wpAnyH_take (i := 1) (v := ?_) rfl (by kernel_rfl) (by kernel_rfl) (by kernel_rfl) (fun _ _ _ h => h) (Or.inl ⟨by rfl, ?_⟩) (by assumption) ?_
            rotate_left 1
            · (intro w' hSw; (try dsimp only at hSw); go_simp; try with_reducible rfl)
            try simp only [Act.put, List.setIfInBounds_toArray, List.set_cons_zero, List.set_cons_succ, List.getElem_toArray, List.getElem_cons_zero, List.getElem_cons_succ]
            refine wpAnyH_take (i := 2) (v := ?_) rfl (by kernel_rfl) (by kernel_rfl) (by kernel_rfl) (fun _ _ _ h => h) (Or.inl ⟨by rfl, ?_⟩) (by assumption) ?_
            rotate_left 1
            · (intro w' hSw; (try dsimp only at hSw); go_simp; try with_reducible rfl)
            try simp only [Act.put, List.setIfInBounds_toArray, List.set_cons_zero, List.set_cons_succ, List.getElem_toArray, List.getElem_cons_zero, List.getElem_cons_succ]
            refine wpAnyH_take (i := 3) (v := ?_) rfl (by kernel_rfl) (by kernel_rfl) (by kernel_rfl) (fun _ _ _ h => h) (Or.inl ⟨by rfl, ?_⟩) (by assumption) ?_
            rotate_left 1
            · (intro w' hSw; (try dsimp only at hSw); go_simp; try with_reducible rfl)
            try simp only [Act.put, List.setIfInBounds_toArray, List.set_cons_zero, List.set_cons_succ, List.getElem_toArray, List.getElem_cons_zero, List.getElem_cons_succ]
            refine wpAnyH_take (i := 4) (v := ?_) rfl (by kernel_rfl) (by kernel_rfl) (by kernel_rfl) (fun _ _ _ h => h) (Or.inl ⟨by rfl, ?_⟩) (by assumption) ?_
            rotate_left 1
            · (intro w' hSw; (try dsimp only at hSw); go_simp; try with_reducible rfl)
            try simp only [Act.put, List.setIfInBounds_toArray, List.set_cons_zero, List.set_cons_succ, List.getElem_toArray, List.getElem_cons_zero, List.getElem_cons_succ]
            refine wpAnyH_take (i := 5) (v := ?_) rfl (by kernel_rfl) (by kernel_rfl) (by kernel_rfl) (fun _ _ _ h => h) (Or.inl ⟨by rfl, ?_⟩) (by assumption) ?_
            rotate_left 1
            · (intro w' hSw; (try dsimp only at hSw); go_simp; try with_reducible rfl)
            try simp only [Act.put, List.setIfInBounds_toArray, List.set_cons_zero, List.set_cons_succ, List.getElem_toArray, List.getElem_cons_zero, List.getElem_cons_succ]
            refine wpAnyH_take (i := 6) (v := ?_) rfl (by kernel_rfl) (by kernel_rfl) (by kernel_rfl) (fun _ _ _ h => h) (Or.inl ⟨by rfl, ?_⟩) (by assumption) ?_
            rotate_left 1
            · (intro w' hSw; (try dsimp only at hSw); go_simp; try with_reducible rfl)
            try simp only [Act.put, List.setIfInBounds_toArray, List.set_cons_zero, List.set_cons_succ, List.getElem_toArray, List.getElem_cons_zero, List.getElem_cons_succ]
            refine wpAnyH_take (i := 7) (v := ?_) rfl (by kernel_rfl) (by kernel_rfl) (by kernel_rfl) (fun _ _ _ h => h) (Or.inl ⟨by rfl, ?_⟩) (by assumption) ?_
            rotate_left 1
            · (intro w' hSw; (try dsimp only at hSw); go_simp; try with_reducible rfl)
            try simp only [Act.put, List.setIfInBounds_toArray, List.set_cons_zero, List.set_cons_succ, List.getElem_toArray, List.getElem_cons_zero, List.getElem_cons_succ]
            refine wpAnyH_ready (rs := [8, 9]) (by kernel_rfl) (by simp) ?_
            refine AllReadyH.cons rfl (fun K hK => ?_) ?_
            · refine stepL_callN 60 #[.tmp 33, .tmp 38] #[62, 62] (by rfl) (by rfl) #[.agg #[.int .i64 RK.v.1, .int .i64 RK.v.2], .agg #[.int .i64 (A ri).v.1, .int .i64 (A ri).v.2]] (by simp only [List.map_toArray, List.map_cons, List.map_nil] <;> rfl) (run_go Tryz.func60 (by kernel_rfl) (by kernel_rfl) _ _) (ml_el RK (A ri) _) ?_
              rintro e U1 ⟨he, kk⟩
              refine ⟨_, he, ?_⟩
              replace KW := hik (KW.out.trans kk)
              refine hK.out _ _ (SA.out _ KW.out) (fun hHeld => ?_)
              clear hK K
              try simp only [Act.put, List.setIfInBounds_toArray, List.set_cons_zero, List.set_cons_succ, List.getElem_toArray, List.getElem_cons_zero, List.getElem_cons_succ]
              clear he kk
              refine wpAnyH_ready (rs := [9]) (by kernel_rfl) (by simp) ?_
              refine AllReadyH.cons rfl (fun K hK => ?_) AllReadyH.nil
              simp only [List.getElem_toArray, List.getElem_cons_zero, List.getElem_cons_succ]
              go_simp
              have E8 : Hid (ElB (World.alloc U1 (.cells #[.int .i64 0, .int .i64 0] 62)) U1.heap.size El.zr) := hik (ElB.zero U1)
              have lq : W0.heap.size ≤ U1.heap.size := KW.out.size
              replace KW : Hid (Chg nob W0 (World.alloc U1 (.cells #[.int .i64 0, .int .i64 0] 62))) := hik (KW.out.alloc _)
              generalize hUA : (World.alloc U1 (.cells #[.int .i64 0, .int .i64 0] 62)) = UA1 at E8 KW ⊢
              clear hUA
              obtain ⟨g8, hgA⟩ : ∃ g, g = U1.heap.size := ⟨_, rfl⟩
              have lg8 : W0.heap.size ≤ g8 := by rw [hgA]; exact lq
              clear lq
              rw [← hgA] at E8 ⊢
              clear hgA
              refine hK.out _ _ (SA.out _ KW.out) (fun hHeld => ?_)
              clear hK K
              try simp only [Act.put, List.setIfInBounds_toArray, List.set_cons_zero, List.set_cons_succ, List.getElem_toArray, List.getElem_cons_zero, List.getElem_cons_succ]
              refine wpAnyH_ready (rs := [10]) (by kernel_rfl) (by simp) ?_
              refine AllReadyH.cons rfl (fun K hK => ?_) AllReadyH.nil
              have z0 := E8.out.c0
              have z1 := E8.out.c1
              have f0 := E8.out.fz 0
              have f1 := E8.out.fz 1
              have l7 := E8.out.lt
              have SS := SA.out _ KW.out
              have hlA : gC < W0.heap.size := HC.out.lt
              have hlX : gW < W0.heap.size := HX.out.1
              have hlE : wi.heap.size < W0.heap.size := World.block_lt_of_cell? _ _ e0
              simp only [List.getElem_toArray, List.getElem_cons_zero, List.getElem_cons_succ]
              go_simp
              refine hK.out _ _ ⟨look_two (by omega) (SS.1) 0 1 _ _, look_two (by omega) (SS.2.1) 0 1 _ _, look_two (by omega) (SS.2.2.1) 0 1 _ _, look_two (by omega) (SS.2.2.2.1) 0 1 _ _, look_two (by omega) (SS.2.2.2.2) 0 1 _ _⟩ (fun hHeld => ?_)
              clear hK K
              try simp only [Act.put, List.setIfInBounds_toArray, List.set_cons_zero, List.set_cons_succ, List.getElem_toArray, List.getElem_cons_zero, List.getElem_cons_succ]
              clear z0 z1 f0 f1 l7 SS
              replace E8 := hik (E8.out.set (El.ml RK (A ri)))
              replace KW := hik (chg2_at KW.out g8 (fun l => absurd l (by omega)) 0 1 (.int .i64 (El.ml RK (A ri)).v.1) (.int .i64 (El.ml RK (A ri)).v.2))
              generalize hUS : ((UA1.setCell ⟨g8, 0, none⟩ (.int .i64 (El.ml RK (A ri)).v.1)).setCell ⟨g8, 1, none⟩ (.int .i64 (El.ml RK (A ri)).v.2)) = US1 at E8 KW hHeld ⊢
              clear hUS
              refine wpAnyH_done (by kernel_rfl) ?_ _
              go_wp2_with fail
              go_meet
              exact ⟨g8, rfl, hik lg8, E8, KW⟩
            · refine AllReadyH.cons rfl (fun K hK => ?_) AllReadyH.nil
              simp only [List.getElem_toArray, List.getElem_cons_zero, List.getElem_cons_succ]
              go_simp
              have E8 : Hid (ElB (World.alloc W0 (.cells #[.int .i64 0, .int .i64 0] 62)).drew W0.heap.size El.zr) := hik (ElB.keep (ElB.zero W0) (Chg.refl nob _).drew1)
              have lq : W0.heap.size ≤ W0.heap.size := Nat.le_refl _
              replace KW : Hid (Chg nob W0 (World.alloc W0 (.cells #[.int .i64 0, .int .i64 0] 62)).drew) := hik (((Chg.refl nob W0).alloc _).drew1)
              generalize hUA : (World.alloc W0 (.cells #[.int .i64 0, .int .i64 0] 62)).drew = UA1 at E8 KW ⊢
              clear hUA
              obtain ⟨g8, hgA⟩ : ∃ g, g = W0.heap.size := ⟨_, rfl⟩
              have lg8 : W0.heap.size ≤ g8 := by rw [hgA]; exact lq
              clear lq
              rw [← hgA] at E8 ⊢
              clear hgA
              refine hK.out _ _ (SA.out _ KW.out) (fun hHeld => ?_)
              clear hK K
              try simp only [Act.put, List.setIfInBounds_toArray, List.set_cons_zero, List.set_cons_succ, List.getElem_toArray, List.getElem_cons_zero, List.getElem_cons_succ]
              refine wpAnyH_ready (rs := [8]) (by kernel_rfl) (by simp) ?_
              refine AllReadyH.cons rfl (fun K hK => ?_) AllReadyH.nil
              refine stepL_callN 60 #[.tmp 33, .tmp 38] #[62, 62] (by rfl) (by rfl) #[.agg #[.int .i64 RK.v.1, .int .i64 RK.v.2], .agg #[.int .i64 (A ri).v.1, .int .i64 (A ri).v.2]] (by simp only [List.map_toArray, List.map_cons, List.map_nil] <;> rfl) (run_go Tryz.func60 (by kernel_rfl) (by kernel_rfl) _ _) (ml_el RK (A ri) _) ?_
              rintro e U1 ⟨he, kk⟩
              replace E8 := hik (E8.out.keep kk)
              refine ⟨_, he, ?_⟩
              replace KW := hik (KW.out.trans kk)
              refine hK.out _ _ (SA.out _ KW.out) (fun hHeld => ?_)
              clear hK K
              try simp only [Act.put, List.setIfInBounds_toArray, List.set_cons_zero, List.set_cons_succ, List.getElem_toArray, List.getElem_cons_zero, List.getElem_cons_succ]
              clear he kk
              refine wpAnyH_ready (rs := [10]) (by kernel_rfl) (by simp) ?_
              refine AllReadyH.cons rfl (fun K hK => ?_) AllReadyH.nil
              have z0 := E8.out.c0
              have z1 := E8.out.c1
              have f0 := E8.out.fz 0
              have f1 := E8.out.fz 1
              have l7 := E8.out.lt
              have SS := SA.out _ KW.out
              have hlA : gC < W0.heap.size := HC.out.lt
              have hlX : gW < W0.heap.size := HX.out.1
              have hlE : wi.heap.size < W0.heap.size := World.block_lt_of_cell? _ _ e0
              simp only [List.getElem_toArray, List.getElem_cons_zero, List.getElem_cons_succ]
              go_simp
              refine hK.out _ _ ⟨look_two (by omega) (SS.1) 0 1 _ _, look_two (by omega) (SS.2.1) 0 1 _ _, look_two (by omega) (SS.2.2.1) 0 1 _ _, look_two (by omega) (SS.2.2.2.1) 0 1 _ _, look_two (by omega) (SS.2.2.2.2) 0 1 _ _⟩ (fun hHeld => ?_)
              clear hK K
              try simp only [Act.put, List.setIfInBounds_toArray, List.set_cons_zero, List.set_cons_succ, List.getElem_toArray, List.getElem_cons_zero, List.getElem_cons_succ]
              clear z0 z1 f0 f1 l7 SS
              replace E8 := hik (E8.out.set (El.ml RK (A ri)))
              replace KW := hik (chg2_at KW.out g8 (fun l => absurd l (by omega)) 0 1 (.int .i64 (El.ml RK (A ri)).v.1) (.int .i64 (El.ml RK (A ri)).v.2))
              generalize hUS : ((U1.setCell ⟨g8, 0, none⟩ (.int .i64 (El.ml RK (A ri)).v.1)).setCell ⟨g8, 1, none⟩ (.int .i64 (El.ml RK (A ri)).v.2)) = US1 at E8 KW hHeld ⊢
              clear hUS
              refine wpAnyH_done (by kernel_rfl) ?_ _
              go_wp2_with fail
              go_meet
              exact ⟨g8, rfl, hik lg8, E8, KW⟩
          case rest =>
            obtain ⟨g8, rfl, HL8, E8, KC⟩ := hcut
            rename World => W6
            clear p0 p1 q0 q1 e0
            have hl8 := HL8.out
            have hlO : gO < W0.heap.size := HO.out.lt
            replace HO := hik (HO.out.keep KC.out)
            replace HC := hik (HC.out.keep KC.out)
            replace HX := hik (HX.out.keep KC.out)
            replace HG := hik (HG.out.trans KC.out)
            have e1 := KC.out.see E1.out
            have e2 := KC.out.see E2.out
            have s0 := HO.out.c0 hci
            have s1 := HO.out.c1 hci
            have r0 := E8.out.c0
            have r1 := E8.out.c1
            clear KC HL8 E1 E2
            go_upto_region 10 with fail
            have KW := hik ((Chg.refl nob W6).drew1)
            have SA := hik (fun (WW : World) (kW : Chg nob W6 WW) => (show (WW.cell? ⟨gO, ci * 2, none⟩ = some (.int .i64 (TT ci).v.1) ∧ WW.cell? ⟨gO, ci * 2 + 1, none⟩ = some (.int .i64 (TT ci).v.2) ∧ WW.cell? ⟨g8, 0, none⟩ = some (.int .i64 (El.ml RK (A ri)).v.1) ∧ WW.cell? ⟨g8, 1, none⟩ = some (.int .i64 (El.ml RK (A ri)).v.2) ∧ WW.cell? ⟨wi.heap.size, 1, none⟩ = some (.int .i64 (ci : Int)) ∧ WW.cell? ⟨wi.heap.size, 2, none⟩ = some (.int .i64 V.v.1)) from ⟨kW.see s0, kW.see s1, kW.see r0, kW.see r1, kW.see e1, kW.see e2⟩))
            refine wp_regionL (L := 15) (S := fun w' => w'.cell? ⟨gO, ci * 2, none⟩ = some (.int .i64 (TT ci).v.1) ∧ w'.cell? ⟨gO, ci * 2 + 1, none⟩ = some (.int .i64 (TT ci).v.2) ∧ w'.cell? ⟨g8, 0, none⟩ = some (.int .i64 (El.ml RK (A ri)).v.1) ∧ w'.cell? ⟨g8, 1, none⟩ = some (.int .i64 (El.ml RK (A ri)).v.2) ∧ w'.cell? ⟨wi.heap.size, 1, none⟩ = some (.int .i64 (ci : Int)) ∧ w'.cell? ⟨wi.heap.size, 2, none⟩ = some (.int .i64 V.v.1)) (by kernel_rfl) ⟨s0, s1, r0, r1, e1, e2⟩ (fun hHeld => ?_)
            refine wpAnyL_take (i := 0) (v := ?_) rfl (by kernel_rfl) (by kernel_rfl) (by kernel_rfl) (fun _ _ _ h => h) (by rfl) (by kernel_rfl) (by kernel_rfl) (Or.inl ⟨by rfl, ?_⟩) (by assumption) ?_
            rotate_left 1
            · (intro w' hSw; (try dsimp only at hSw); go_simp; try with_reducible rfl)
            try simp only [Act.put, List.setIfInBounds_toArray, List.set_cons_zero, List.set_cons_succ, List.getElem_toArray, List.getElem_cons_zero, List.getElem_cons_succ]
            refine wpAnyL_take (i := 1) (v := ?_) rfl (by kernel_rfl) (by kernel_rfl) (by kernel_rfl) (fun _ _ _ h => h) (by rfl) (by kernel_rfl) (by kernel_rfl) (Or.inl ⟨by rfl, ?_⟩) (by assumption) ?_
            rotate_left 1
            · (intro w' hSw; (try dsimp only at hSw); go_simp; try with_reducible rfl)
            try simp only [Act.put, List.setIfInBounds_toArray, List.set_cons_zero, List.set_cons_succ, List.getElem_toArray, List.getElem_cons_zero, List.getElem_cons_succ]
            refine wpAnyL_take (i := 2) (v := ?_) rfl (by kernel_rfl) (by kernel_rfl) (by kernel_rfl) (fun _ _ _ h => h) (by rfl) (by kernel_rfl) (by kernel_rfl) (Or.inl ⟨by rfl, ?_⟩) (by assumption) ?_
            rotate_left 1
            · (intro w' hSw; (try dsimp only at hSw); go_simp; try with_reducible rfl)
            try simp only [Act.put, List.setIfInBounds_toArray, List.set_cons_zero, List.set_cons_succ, List.getElem_toArray, List.getElem_cons_zero, List.getElem_cons_succ]
            refine wpAnyL_take (i := 3) (v := ?_) rfl (by kernel_rfl) (by kernel_rfl) (by kernel_rfl) (fun _ _ _ h => h) (by rfl) (by kernel_rfl) (by kernel_rfl) (Or.inl ⟨by rfl, ?_⟩) (by assumption) ?_
            rotate_left 1
            · (intro w' hSw; (try dsimp only at hSw); go_simp; try with_reducible rfl)
            try simp only [Act.put, List.setIfInBounds_toArray, List.set_cons_zero, List.set_cons_succ, List.getElem_toArray, List.getElem_cons_zero, List.getElem_cons_succ]
            refine wpAnyL_take (i := 4) (v := ?_) rfl (by kernel_rfl) (by kernel_rfl) (by kernel_rfl) (fun _ _ _ h => h) (by rfl) (by kernel_rfl) (by kernel_rfl) (Or.inl ⟨by rfl, ?_⟩) (by assumption) ?_
            rotate_left 1
            · (intro w' hSw; (try dsimp only at hSw); go_simp; try with_reducible rfl)
            try simp only [Act.put, List.setIfInBounds_toArray, List.set_cons_zero, List.set_cons_succ, List.getElem_toArray, List.getElem_cons_zero, List.getElem_cons_succ]
            refine wpAnyL_take (i := 5) (v := ?_) rfl (by kernel_rfl) (by kernel_rfl) (by kernel_rfl) (fun _ _ _ h => h) (by rfl) (by kernel_rfl) (by kernel_rfl) (Or.inl ⟨by rfl, ?_⟩) (by assumption) ?_
            rotate_left 1
            · (intro w' hSw; (try dsimp only at hSw); go_simp; try with_reducible rfl)
            try simp only [Act.put, List.setIfInBounds_toArray, List.set_cons_zero, List.set_cons_succ, List.getElem_toArray, List.getElem_cons_zero, List.getElem_cons_succ]
            refine wpAnyL_take (i := 6) (v := ?_) rfl (by kernel_rfl) (by kernel_rfl) (by kernel_rfl) (fun _ _ _ h => h) (by rfl) (by kernel_rfl) (by kernel_rfl) (Or.inl ⟨by rfl, ?_⟩) (by assumption) ?_
            rotate_left 1
            · (intro w' hSw; (try dsimp only at hSw); go_simp; try with_reducible rfl)
            try simp only [Act.put, List.setIfInBounds_toArray, List.set_cons_zero, List.set_cons_succ, List.getElem_toArray, List.getElem_cons_zero, List.getElem_cons_succ]
            refine wpAnyL_take (i := 7) (v := ?_) rfl (by kernel_rfl) (by kernel_rfl) (by kernel_rfl) (fun _ _ _ h => h) (by rfl) (by kernel_rfl) (by kernel_rfl) (Or.inl ⟨by rfl, ?_⟩) (by assumption) ?_
            rotate_left 1
            · (intro w' hSw; (try dsimp only at hSw); go_simp; try with_reducible rfl)
            try simp only [Act.put, List.setIfInBounds_toArray, List.set_cons_zero, List.set_cons_succ, List.getElem_toArray, List.getElem_cons_zero, List.getElem_cons_succ]
            refine wpAnyL_take (i := 8) (v := ?_) rfl (by kernel_rfl) (by kernel_rfl) (by kernel_rfl) (fun _ _ _ h => h) (by rfl) (by kernel_rfl) (by kernel_rfl) (Or.inl ⟨by rfl, ?_⟩) (by assumption) ?_
            rotate_left 1
            · (intro w' hSw; (try dsimp only at hSw); go_simp; try with_reducible rfl)
            try simp only [Act.put, List.setIfInBounds_toArray, List.set_cons_zero, List.set_cons_succ, List.getElem_toArray, List.getElem_cons_zero, List.getElem_cons_succ]
            refine wpAnyL_take (i := 9) (v := ?_) rfl (by kernel_rfl) (by kernel_rfl) (by kernel_rfl) (fun _ _ _ h => h) (by rfl) (by kernel_rfl) (by kernel_rfl) (Or.inl ⟨by rfl, ?_⟩) (by assumption) ?_
            rotate_left 1
            · (intro w' hSw; (try dsimp only at hSw); go_simp; try with_reducible rfl)
            try simp only [Act.put, List.setIfInBounds_toArray, List.set_cons_zero, List.set_cons_succ, List.getElem_toArray, List.getElem_cons_zero, List.getElem_cons_succ]
            refine wpAnyL_take (i := 10) (v := ?_) rfl (by kernel_rfl) (by kernel_rfl) (by kernel_rfl) (fun _ _ _ h => h) (by rfl) (by kernel_rfl) (by kernel_rfl) (Or.inl ⟨by rfl, ?_⟩) (by assumption) ?_
            rotate_left 1
            · (intro w' hSw; (try dsimp only at hSw); go_simp; try with_reducible rfl)
            try simp only [Act.put, List.setIfInBounds_toArray, List.set_cons_zero, List.set_cons_succ, List.getElem_toArray, List.getElem_cons_zero, List.getElem_cons_succ]
            refine wpAnyL_take (i := 11) (v := ?_) rfl (by kernel_rfl) (by kernel_rfl) (by kernel_rfl) (fun _ _ _ h => h) (by rfl) (by kernel_rfl) (by kernel_rfl) (Or.inl ⟨by rfl, ?_⟩) (by assumption) ?_
            rotate_left 1
            · (intro w' hSw; (try dsimp only at hSw); go_simp; try with_reducible rfl)
            try simp only [Act.put, List.setIfInBounds_toArray, List.set_cons_zero, List.set_cons_succ, List.getElem_toArray, List.getElem_cons_zero, List.getElem_cons_succ]
            refine wpAnyL_ready (rs := [12]) (by kernel_rfl) (by simp) ?_
            refine AllReadyL.cons rfl (fun K hK => ?_) AllReadyL.nil
            refine stepL_callN 60 #[.tmp 48, .tmp 51] #[62, 62] (by rfl) (by rfl) #[.agg #[.int .i64 (El.ml RK (A ri)).v.1, .int .i64 (El.ml RK (A ri)).v.2], .agg #[.int .i64 V.v.1, .int .i64 0]] (by simp only [List.map_toArray, List.map_cons, List.map_nil] <;> rfl) (run_go Tryz.func60 (by kernel_rfl) (by kernel_rfl) _ _) (hml _) ?_
            rintro e U1 ⟨he, kk⟩
            refine ⟨_, he, ?_⟩
            replace KW := hik (KW.out.trans kk)
            refine hK.out _ _ (SA.out _ KW.out) (fun hHeld => ?_)
            clear hK K
            try simp only [Act.put, List.setIfInBounds_toArray, List.set_cons_zero, List.set_cons_succ, List.getElem_toArray, List.getElem_cons_zero, List.getElem_cons_succ]
            clear he kk
            refine wpAnyL_ready (rs := [13]) (by kernel_rfl) (by simp) ?_
            refine AllReadyL.cons rfl (fun K hK => ?_) AllReadyL.nil
            refine stepL_callN 61 #[.tmp 47, .tmp 52] #[62, 62] (by rfl) (by rfl) #[.agg #[.int .i64 (TT ci).v.1, .int .i64 (TT ci).v.2], .agg #[.int .i64 (El.ml (El.ml RK (A ri)) V).v.1, .int .i64 (El.ml (El.ml RK (A ri)) V).v.2]] (by simp only [List.map_toArray, List.map_cons, List.map_nil] <;> rfl) (run_go Tryz.func61 (by kernel_rfl) (by kernel_rfl) _ _) (ad_el (TT ci) (El.ml (El.ml RK (A ri)) V) _) ?_
            rintro e U2 ⟨he, kk⟩
            refine ⟨_, he, ?_⟩
            replace KW := hik (KW.out.trans kk)
            refine hK.out _ _ (SA.out _ KW.out) (fun hHeld => ?_)
            clear hK K
            try simp only [Act.put, List.setIfInBounds_toArray, List.set_cons_zero, List.set_cons_succ, List.getElem_toArray, List.getElem_cons_zero, List.getElem_cons_succ]
            clear he kk
            refine wpAnyL_take (i := 14) (v := ?_) rfl (by kernel_rfl) (by kernel_rfl) (by kernel_rfl) (fun _ _ _ h => h) (by rfl) (by kernel_rfl) (by kernel_rfl) (Or.inl ⟨by rfl, ?_⟩) (by assumption) ?_
            rotate_left 1
            · (intro w' hSw; (try dsimp only at hSw); go_simp; try with_reducible rfl)
            try simp only [Act.put, List.setIfInBounds_toArray, List.set_cons_zero, List.set_cons_succ, List.getElem_toArray, List.getElem_cons_zero, List.getElem_cons_succ]
            refine wpAnyL_ready (rs := [15]) (by kernel_rfl) (by simp) ?_
            refine AllReadyL.last rfl (by kernel_rfl) (fun K hK => ?_)
            have EN := hik (HO.out.keep KW.out)
            have g0 := EN.out.c0 hci
            have g1 := EN.out.c1 hci
            have f0 := World.rowIs.frozen EN.out (ci * 2)
            have f1 := World.rowIs.frozen EN.out (ci * 2 + 1)
            have ln : gO < U2.heap.size := EN.out.lt
            simp only [List.getElem_toArray, List.getElem_cons_zero, List.getElem_cons_succ]
            go_simp
            refine hK.out _ _ ?_
            clear hK K
            try simp only [Act.put, List.setIfInBounds_toArray, List.set_cons_zero, List.set_cons_succ, List.getElem_toArray, List.getElem_cons_zero, List.getElem_cons_succ]
            clear g0 g1 f0 f1 ln
            refine wpAnyL_done (by kernel_rfl) ?_ _
            have O2 : Hid (RowE _ gO N (btE A RK X TK (j + 1))) := hik ((EN.out.set ci (El.ad (TT ci) (El.ml (El.ml RK (A ri)) V))).congr (fun z _ => (HST.out z).symm))
            have A2 := hik (Cub.other (HC.out.keep KW.out) (g := gO) (by omega) (ci * 2) (ci * 2 + 1) (.int .i64 (El.ad (TT ci) (El.ml (El.ml RK (A ri)) V)).v.1) (.int .i64 (El.ad (TT ci) (El.ml (El.ml RK (A ri)) V)).v.2))
            have L2 := hik (Wt3.other (HX.out.keep KW.out) (b := gO) (by omega) (ci * 2) (ci * 2 + 1) (.int .i64 (El.ad (TT ci) (El.ml (El.ml RK (A ri)) V)).v.1) (.int .i64 (El.ad (TT ci) (El.ml (El.ml RK (A ri)) V)).v.2))
            have G2 := hik (chg2_at (HG.out.trans KW.out) gO (fun l => absurd l (by omega)) (ci * 2) (ci * 2 + 1) (.int .i64 (El.ad (TT ci) (El.ml (El.ml RK (A ri)) V)).v.1) (.int .i64 (El.ad (TT ci) (El.ml (El.ml RK (A ri)) V)).v.2))
            generalize hE : ((U2.setCell ⟨gO, ci * 2, none⟩ (.int .i64 (El.ad (TT ci) (El.ml (El.ml RK (A ri)) V)).v.1)).setCell ⟨gO, ci * 2 + 1, none⟩ (.int .i64 (El.ad (TT ci) (El.ml (El.ml RK (A ri)) V)).v.2)) = W7 at O2 A2 L2 G2 ⊢
            clear hE EN KW SA hHeld e1 e2 s0 s1 r0 r1 HO HC HX HG
            go_wp2
            go_roundw
            case rel => exact ⟨j + 1, by omega, by go_num, O2, A2, L2, G2⟩
            case measure => simp [intOf]; omega
        · obtain rfl : nK = j := by omega
          go_wp2
          go_roundw
          case rel => exact ⟨k + 1, by omega, by go_num, hik (by rw [HNX.out]; exact HO.out), HC, HX, HG⟩
          case measure => simp [intOf]; omega
    · obtain rfl : k = 3 := by omega
      go_wp2
      go_ret
      exact ⟨gO, rfl, hlo, HO.out.congr (fun i _ => HBT.out A HA.out 3 i), HG.out⟩

end Go.Proofs.YtkpohajmcngjcaaGreatDoor

namespace Go.Proofs.YtkpohajmcngjcaaGreatDoor
open Go.ChangeShapes Go.WideShapes Go.ChangeAt Go.RowKit
set_option linter.unusedVariables false
set_option maxRecDepth 100000
set_option linter.unusedSimpArgs false

theorem pairs3r {W : World} {g : Nat} {t : TypeId} {a2 b2 a3 b3 a4 b4 : Int} (h : W.rowIs g t 6 (fun i => (#[.int .i64 a2, .int .i64 b2, .int .i64 a3, .int .i64 b3, .int .i64 a4, .int .i64 b4] : Array Value).getD i undef)) : PairV W (some ⟨g, 0, none⟩) 3 (pk3 a2 a3 a4) (pk3 b2 b3 b4) := by
  intro i hi
  refine ⟨g, 0, rfl, h.lt, ?_, ?_⟩ <;> (rw [Nat.zero_add, h.cell (by omega)]; rcases (show i = 0 ∨ i = 1 ∨ i = 2 by omega) with rfl | rfl | rfl <;> simp [pk3])

set_option maxHeartbeats 4000000 in
theorem boundX_any (s : Sy) (a : SyA) (cx : Option Addr) (n capx : Nat) (f g : Nat → Int) (a2 b2 a3 b3 a4 b4 : Int) (w : World) (hv : Hid (SyV w s a)) (hs : s.small) (hp : Hid (PairV w cx n f g)) (hn : n ≤ 1099511627776) :
    Calls Tryz.prog 25 #[.agg #[.int .i64 s.r, .int .i64 s.q, .int .i64 s.p, .slice a.cA s.nA a.pA, .slice a.cB s.nB a.pB, .slice a.cC s.nC a.pC], .slice cx n capx, .agg #[.int .i64 a2, .int .i64 b2], .agg #[.int .i64 a3, .int .i64 b3], .agg #[.int .i64 a4, .int .i64 b4]] w fun e w' => TbC w (bdc s n f g (pk3 a2 a3 a4) (pk3 b2 b3 b4)) (bdn s n f g (pk3 a2 a3 a4) (pk3 b2 b3 b4)) (bdv s n f g (pk3 a2 a3 a4) (pk3 b2 b3 b4)) e w' := by
  by_cases h1 : 4096 < n
  · have h1' : (4096 : Int) < n := by omega
    have HC := hik (show bdc s n f g (pk3 a2 a3 a4) (pk3 b2 b3 b4) = 2 by simp [bdc, h1])
    have HM := hik (show bdn s n f g (pk3 a2 a3 a4) (pk3 b2 b3 b4) = 0 by unfold bdn; rw [HC.out]; rfl)
    have KB := hik (((((Chg.refl nob w).alloc (.cells #[.int .i64 s.r, .int .i64 s.q, .int .i64 s.p, .slice a.cA s.nA a.pA, .slice a.cB s.nB a.pB, .slice a.cC s.nC a.pC] 40)).alloc (.cells #[.int .i64 a2, .int .i64 b2] 62)).alloc (.cells #[.int .i64 a3, .int .i64 b3] 62)).alloc (.cells #[.int .i64 a4, .int .i64 b4] 62))
    have x0 : World.cell? ((((w.alloc (.cells #[.int .i64 s.r, .int .i64 s.q, .int .i64 s.p, .slice a.cA s.nA a.pA, .slice a.cB s.nB a.pB, .slice a.cC s.nC a.pC] 40)).alloc (.cells #[.int .i64 a2, .int .i64 b2] 62)).alloc (.cells #[.int .i64 a3, .int .i64 b3] 62)).alloc (.cells #[.int .i64 a4, .int .i64 b4] 62)) ⟨w.heap.size, 0, none⟩ = some (.int .i64 s.r) := by go_simp
    have x1 : World.cell? ((((w.alloc (.cells #[.int .i64 s.r, .int .i64 s.q, .int .i64 s.p, .slice a.cA s.nA a.pA, .slice a.cB s.nB a.pB, .slice a.cC s.nC a.pC] 40)).alloc (.cells #[.int .i64 a2, .int .i64 b2] 62)).alloc (.cells #[.int .i64 a3, .int .i64 b3] 62)).alloc (.cells #[.int .i64 a4, .int .i64 b4] 62)) ⟨w.heap.size, 1, none⟩ = some (.int .i64 s.q) := by go_simp
    have x2 : World.cell? ((((w.alloc (.cells #[.int .i64 s.r, .int .i64 s.q, .int .i64 s.p, .slice a.cA s.nA a.pA, .slice a.cB s.nB a.pB, .slice a.cC s.nC a.pC] 40)).alloc (.cells #[.int .i64 a2, .int .i64 b2] 62)).alloc (.cells #[.int .i64 a3, .int .i64 b3] 62)).alloc (.cells #[.int .i64 a4, .int .i64 b4] 62)) ⟨w.heap.size, 2, none⟩ = some (.int .i64 s.p) := by go_simp
    have x3 : World.cell? ((((w.alloc (.cells #[.int .i64 s.r, .int .i64 s.q, .int .i64 s.p, .slice a.cA s.nA a.pA, .slice a.cB s.nB a.pB, .slice a.cC s.nC a.pC] 40)).alloc (.cells #[.int .i64 a2, .int .i64 b2] 62)).alloc (.cells #[.int .i64 a3, .int .i64 b3] 62)).alloc (.cells #[.int .i64 a4, .int .i64 b4] 62)) ⟨w.heap.size, 3, none⟩ = some (.slice a.cA s.nA a.pA) := by go_simp
    have x4 : World.cell? ((((w.alloc (.cells #[.int .i64 s.r, .int .i64 s.q, .int .i64 s.p, .slice a.cA s.nA a.pA, .slice a.cB s.nB a.pB, .slice a.cC s.nC a.pC] 40)).alloc (.cells #[.int .i64 a2, .int .i64 b2] 62)).alloc (.cells #[.int .i64 a3, .int .i64 b3] 62)).alloc (.cells #[.int .i64 a4, .int .i64 b4] 62)) ⟨w.heap.size, 4, none⟩ = some (.slice a.cB s.nB a.pB) := by go_simp
    have x5 : World.cell? ((((w.alloc (.cells #[.int .i64 s.r, .int .i64 s.q, .int .i64 s.p, .slice a.cA s.nA a.pA, .slice a.cB s.nB a.pB, .slice a.cC s.nC a.pC] 40)).alloc (.cells #[.int .i64 a2, .int .i64 b2] 62)).alloc (.cells #[.int .i64 a3, .int .i64 b3] 62)).alloc (.cells #[.int .i64 a4, .int .i64 b4] 62)) ⟨w.heap.size, 5, none⟩ = some (.slice a.cC s.nC a.pC) := by go_simp
    have p0 : World.cell? ((((w.alloc (.cells #[.int .i64 s.r, .int .i64 s.q, .int .i64 s.p, .slice a.cA s.nA a.pA, .slice a.cB s.nB a.pB, .slice a.cC s.nC a.pC] 40)).alloc (.cells #[.int .i64 a2, .int .i64 b2] 62)).alloc (.cells #[.int .i64 a3, .int .i64 b3] 62)).alloc (.cells #[.int .i64 a4, .int .i64 b4] 62)) ⟨w.heap.size + 1, 0, none⟩ = some (.int .i64 a2) := by go_simp
    have p1 : World.cell? ((((w.alloc (.cells #[.int .i64 s.r, .int .i64 s.q, .int .i64 s.p, .slice a.cA s.nA a.pA, .slice a.cB s.nB a.pB, .slice a.cC s.nC a.pC] 40)).alloc (.cells #[.int .i64 a2, .int .i64 b2] 62)).alloc (.cells #[.int .i64 a3, .int .i64 b3] 62)).alloc (.cells #[.int .i64 a4, .int .i64 b4] 62)) ⟨w.heap.size + 1, 1, none⟩ = some (.int .i64 b2) := by go_simp
    have q0 : World.cell? ((((w.alloc (.cells #[.int .i64 s.r, .int .i64 s.q, .int .i64 s.p, .slice a.cA s.nA a.pA, .slice a.cB s.nB a.pB, .slice a.cC s.nC a.pC] 40)).alloc (.cells #[.int .i64 a2, .int .i64 b2] 62)).alloc (.cells #[.int .i64 a3, .int .i64 b3] 62)).alloc (.cells #[.int .i64 a4, .int .i64 b4] 62)) ⟨w.heap.size + 2, 0, none⟩ = some (.int .i64 a3) := by go_simp
    have q1 : World.cell? ((((w.alloc (.cells #[.int .i64 s.r, .int .i64 s.q, .int .i64 s.p, .slice a.cA s.nA a.pA, .slice a.cB s.nB a.pB, .slice a.cC s.nC a.pC] 40)).alloc (.cells #[.int .i64 a2, .int .i64 b2] 62)).alloc (.cells #[.int .i64 a3, .int .i64 b3] 62)).alloc (.cells #[.int .i64 a4, .int .i64 b4] 62)) ⟨w.heap.size + 2, 1, none⟩ = some (.int .i64 b3) := by go_simp
    have r0 : World.cell? ((((w.alloc (.cells #[.int .i64 s.r, .int .i64 s.q, .int .i64 s.p, .slice a.cA s.nA a.pA, .slice a.cB s.nB a.pB, .slice a.cC s.nC a.pC] 40)).alloc (.cells #[.int .i64 a2, .int .i64 b2] 62)).alloc (.cells #[.int .i64 a3, .int .i64 b3] 62)).alloc (.cells #[.int .i64 a4, .int .i64 b4] 62)) ⟨w.heap.size + 3, 0, none⟩ = some (.int .i64 a4) := by go_simp
    have r1 : World.cell? ((((w.alloc (.cells #[.int .i64 s.r, .int .i64 s.q, .int .i64 s.p, .slice a.cA s.nA a.pA, .slice a.cB s.nB a.pB, .slice a.cC s.nC a.pC] 40)).alloc (.cells #[.int .i64 a2, .int .i64 b2] 62)).alloc (.cells #[.int .i64 a3, .int .i64 b3] 62)).alloc (.cells #[.int .i64 a4, .int .i64 b4] 62)) ⟨w.heap.size + 3, 1, none⟩ = some (.int .i64 b4) := by go_simp
    have BX := hik (cel6 x0 x1 x2 x3 x4 x5)
    go_enter Tryz.func25, Tryz.ntmps25
    go_upto_region 1 with fail
    have EX := hik (show (World.cell? (((((w.alloc (.cells #[.int .i64 s.r, .int .i64 s.q, .int .i64 s.p, .slice a.cA s.nA a.pA, .slice a.cB s.nB a.pB, .slice a.cC s.nC a.pC] 40)).alloc (.cells #[.int .i64 a2, .int .i64 b2] 62)).alloc (.cells #[.int .i64 a3, .int .i64 b3] 62)).alloc (.cells #[.int .i64 a4, .int .i64 b4] 62))) ⟨w.heap.size + 1, 0, none⟩ = some (.int .i64 a2) ∧ World.cell? (((((w.alloc (.cells #[.int .i64 s.r, .int .i64 s.q, .int .i64 s.p, .slice a.cA s.nA a.pA, .slice a.cB s.nB a.pB, .slice a.cC s.nC a.pC] 40)).alloc (.cells #[.int .i64 a2, .int .i64 b2] 62)).alloc (.cells #[.int .i64 a3, .int .i64 b3] 62)).alloc (.cells #[.int .i64 a4, .int .i64 b4] 62))) ⟨w.heap.size + 1, 1, none⟩ = some (.int .i64 b2) ∧ World.cell? (((((w.alloc (.cells #[.int .i64 s.r, .int .i64 s.q, .int .i64 s.p, .slice a.cA s.nA a.pA, .slice a.cB s.nB a.pB, .slice a.cC s.nC a.pC] 40)).alloc (.cells #[.int .i64 a2, .int .i64 b2] 62)).alloc (.cells #[.int .i64 a3, .int .i64 b3] 62)).alloc (.cells #[.int .i64 a4, .int .i64 b4] 62))) ⟨w.heap.size + 2, 0, none⟩ = some (.int .i64 a3) ∧ World.cell? (((((w.alloc (.cells #[.int .i64 s.r, .int .i64 s.q, .int .i64 s.p, .slice a.cA s.nA a.pA, .slice a.cB s.nB a.pB, .slice a.cC s.nC a.pC] 40)).alloc (.cells #[.int .i64 a2, .int .i64 b2] 62)).alloc (.cells #[.int .i64 a3, .int .i64 b3] 62)).alloc (.cells #[.int .i64 a4, .int .i64 b4] 62))) ⟨w.heap.size + 2, 1, none⟩ = some (.int .i64 b3) ∧ World.cell? (((((w.alloc (.cells #[.int .i64 s.r, .int .i64 s.q, .int .i64 s.p, .slice a.cA s.nA a.pA, .slice a.cB s.nB a.pB, .slice a.cC s.nC a.pC] 40)).alloc (.cells #[.int .i64 a2, .int .i64 b2] 62)).alloc (.cells #[.int .i64 a3, .int .i64 b3] 62)).alloc (.cells #[.int .i64 a4, .int .i64 b4] 62))) ⟨w.heap.size + 3, 0, none⟩ = some (.int .i64 a4) ∧ World.cell? (((((w.alloc (.cells #[.int .i64 s.r, .int .i64 s.q, .int .i64 s.p, .slice a.cA s.nA a.pA, .slice a.cB s.nB a.pB, .slice a.cC s.nC a.pC] 40)).alloc (.cells #[.int .i64 a2, .int .i64 b2] 62)).alloc (.cells #[.int .i64 a3, .int .i64 b3] 62)).alloc (.cells #[.int .i64 a4, .int .i64 b4] 62))) ⟨w.heap.size + 3, 1, none⟩ = some (.int .i64 b4)) from ⟨p0, p1, q0, q1, r0, r1⟩)
    clear x0 x1 x2 x3 x4 x5 p0 p1 q0 q1 r0 r1
    generalize ((((w.alloc (.cells #[.int .i64 s.r, .int .i64 s.q, .int .i64 s.p, .slice a.cA s.nA a.pA, .slice a.cB s.nB a.pB, .slice a.cC s.nC a.pC] 40)).alloc (.cells #[.int .i64 a2, .int .i64 b2] 62)).alloc (.cells #[.int .i64 a3, .int .i64 b3] 62)).alloc (.cells #[.int .i64 a4, .int .i64 b4] 62)) = B at KB BX EX ⊢
    go_wp2
    go_ret2
    exact TbC.none HC.out HM.out KB.out
  have h1' : ¬ (4096 : Int) < n := by omega
  have hC : bdc s n f g (pk3 a2 a3 a4) (pk3 b2 b3 b4) = if sysb s = false ∨ okP f g n = false ∨ okP (pk3 a2 a3 a4) (pk3 b2 b3 b4) 3 = false then 1 else if ¬ (n : Int) = s.r then 8 else 0 := by unfold bdc; rw [if_neg h1]
  cases h2 : sysb s with
  | false =>
    have HC := hik (show bdc s n f g (pk3 a2 a3 a4) (pk3 b2 b3 b4) = 1 by rw [hC, if_pos (.inl h2)])
    have HM := hik (show bdn s n f g (pk3 a2 a3 a4) (pk3 b2 b3 b4) = 0 by unfold bdn; rw [HC.out]; rfl)
    have H2 := hik h2
    clear hC h2
    have KB := hik (((((Chg.refl nob w).alloc (.cells #[.int .i64 s.r, .int .i64 s.q, .int .i64 s.p, .slice a.cA s.nA a.pA, .slice a.cB s.nB a.pB, .slice a.cC s.nC a.pC] 40)).alloc (.cells #[.int .i64 a2, .int .i64 b2] 62)).alloc (.cells #[.int .i64 a3, .int .i64 b3] 62)).alloc (.cells #[.int .i64 a4, .int .i64 b4] 62))
    have x0 : World.cell? ((((w.alloc (.cells #[.int .i64 s.r, .int .i64 s.q, .int .i64 s.p, .slice a.cA s.nA a.pA, .slice a.cB s.nB a.pB, .slice a.cC s.nC a.pC] 40)).alloc (.cells #[.int .i64 a2, .int .i64 b2] 62)).alloc (.cells #[.int .i64 a3, .int .i64 b3] 62)).alloc (.cells #[.int .i64 a4, .int .i64 b4] 62)) ⟨w.heap.size, 0, none⟩ = some (.int .i64 s.r) := by go_simp
    have x1 : World.cell? ((((w.alloc (.cells #[.int .i64 s.r, .int .i64 s.q, .int .i64 s.p, .slice a.cA s.nA a.pA, .slice a.cB s.nB a.pB, .slice a.cC s.nC a.pC] 40)).alloc (.cells #[.int .i64 a2, .int .i64 b2] 62)).alloc (.cells #[.int .i64 a3, .int .i64 b3] 62)).alloc (.cells #[.int .i64 a4, .int .i64 b4] 62)) ⟨w.heap.size, 1, none⟩ = some (.int .i64 s.q) := by go_simp
    have x2 : World.cell? ((((w.alloc (.cells #[.int .i64 s.r, .int .i64 s.q, .int .i64 s.p, .slice a.cA s.nA a.pA, .slice a.cB s.nB a.pB, .slice a.cC s.nC a.pC] 40)).alloc (.cells #[.int .i64 a2, .int .i64 b2] 62)).alloc (.cells #[.int .i64 a3, .int .i64 b3] 62)).alloc (.cells #[.int .i64 a4, .int .i64 b4] 62)) ⟨w.heap.size, 2, none⟩ = some (.int .i64 s.p) := by go_simp
    have x3 : World.cell? ((((w.alloc (.cells #[.int .i64 s.r, .int .i64 s.q, .int .i64 s.p, .slice a.cA s.nA a.pA, .slice a.cB s.nB a.pB, .slice a.cC s.nC a.pC] 40)).alloc (.cells #[.int .i64 a2, .int .i64 b2] 62)).alloc (.cells #[.int .i64 a3, .int .i64 b3] 62)).alloc (.cells #[.int .i64 a4, .int .i64 b4] 62)) ⟨w.heap.size, 3, none⟩ = some (.slice a.cA s.nA a.pA) := by go_simp
    have x4 : World.cell? ((((w.alloc (.cells #[.int .i64 s.r, .int .i64 s.q, .int .i64 s.p, .slice a.cA s.nA a.pA, .slice a.cB s.nB a.pB, .slice a.cC s.nC a.pC] 40)).alloc (.cells #[.int .i64 a2, .int .i64 b2] 62)).alloc (.cells #[.int .i64 a3, .int .i64 b3] 62)).alloc (.cells #[.int .i64 a4, .int .i64 b4] 62)) ⟨w.heap.size, 4, none⟩ = some (.slice a.cB s.nB a.pB) := by go_simp
    have x5 : World.cell? ((((w.alloc (.cells #[.int .i64 s.r, .int .i64 s.q, .int .i64 s.p, .slice a.cA s.nA a.pA, .slice a.cB s.nB a.pB, .slice a.cC s.nC a.pC] 40)).alloc (.cells #[.int .i64 a2, .int .i64 b2] 62)).alloc (.cells #[.int .i64 a3, .int .i64 b3] 62)).alloc (.cells #[.int .i64 a4, .int .i64 b4] 62)) ⟨w.heap.size, 5, none⟩ = some (.slice a.cC s.nC a.pC) := by go_simp
    have p0 : World.cell? ((((w.alloc (.cells #[.int .i64 s.r, .int .i64 s.q, .int .i64 s.p, .slice a.cA s.nA a.pA, .slice a.cB s.nB a.pB, .slice a.cC s.nC a.pC] 40)).alloc (.cells #[.int .i64 a2, .int .i64 b2] 62)).alloc (.cells #[.int .i64 a3, .int .i64 b3] 62)).alloc (.cells #[.int .i64 a4, .int .i64 b4] 62)) ⟨w.heap.size + 1, 0, none⟩ = some (.int .i64 a2) := by go_simp
    have p1 : World.cell? ((((w.alloc (.cells #[.int .i64 s.r, .int .i64 s.q, .int .i64 s.p, .slice a.cA s.nA a.pA, .slice a.cB s.nB a.pB, .slice a.cC s.nC a.pC] 40)).alloc (.cells #[.int .i64 a2, .int .i64 b2] 62)).alloc (.cells #[.int .i64 a3, .int .i64 b3] 62)).alloc (.cells #[.int .i64 a4, .int .i64 b4] 62)) ⟨w.heap.size + 1, 1, none⟩ = some (.int .i64 b2) := by go_simp
    have q0 : World.cell? ((((w.alloc (.cells #[.int .i64 s.r, .int .i64 s.q, .int .i64 s.p, .slice a.cA s.nA a.pA, .slice a.cB s.nB a.pB, .slice a.cC s.nC a.pC] 40)).alloc (.cells #[.int .i64 a2, .int .i64 b2] 62)).alloc (.cells #[.int .i64 a3, .int .i64 b3] 62)).alloc (.cells #[.int .i64 a4, .int .i64 b4] 62)) ⟨w.heap.size + 2, 0, none⟩ = some (.int .i64 a3) := by go_simp
    have q1 : World.cell? ((((w.alloc (.cells #[.int .i64 s.r, .int .i64 s.q, .int .i64 s.p, .slice a.cA s.nA a.pA, .slice a.cB s.nB a.pB, .slice a.cC s.nC a.pC] 40)).alloc (.cells #[.int .i64 a2, .int .i64 b2] 62)).alloc (.cells #[.int .i64 a3, .int .i64 b3] 62)).alloc (.cells #[.int .i64 a4, .int .i64 b4] 62)) ⟨w.heap.size + 2, 1, none⟩ = some (.int .i64 b3) := by go_simp
    have r0 : World.cell? ((((w.alloc (.cells #[.int .i64 s.r, .int .i64 s.q, .int .i64 s.p, .slice a.cA s.nA a.pA, .slice a.cB s.nB a.pB, .slice a.cC s.nC a.pC] 40)).alloc (.cells #[.int .i64 a2, .int .i64 b2] 62)).alloc (.cells #[.int .i64 a3, .int .i64 b3] 62)).alloc (.cells #[.int .i64 a4, .int .i64 b4] 62)) ⟨w.heap.size + 3, 0, none⟩ = some (.int .i64 a4) := by go_simp
    have r1 : World.cell? ((((w.alloc (.cells #[.int .i64 s.r, .int .i64 s.q, .int .i64 s.p, .slice a.cA s.nA a.pA, .slice a.cB s.nB a.pB, .slice a.cC s.nC a.pC] 40)).alloc (.cells #[.int .i64 a2, .int .i64 b2] 62)).alloc (.cells #[.int .i64 a3, .int .i64 b3] 62)).alloc (.cells #[.int .i64 a4, .int .i64 b4] 62)) ⟨w.heap.size + 3, 1, none⟩ = some (.int .i64 b4) := by go_simp
    have BX := hik (cel6 x0 x1 x2 x3 x4 x5)
    go_enter Tryz.func25, Tryz.ntmps25
    go_upto_region 1 with fail
    have EX := hik (show (World.cell? (((((w.alloc (.cells #[.int .i64 s.r, .int .i64 s.q, .int .i64 s.p, .slice a.cA s.nA a.pA, .slice a.cB s.nB a.pB, .slice a.cC s.nC a.pC] 40)).alloc (.cells #[.int .i64 a2, .int .i64 b2] 62)).alloc (.cells #[.int .i64 a3, .int .i64 b3] 62)).alloc (.cells #[.int .i64 a4, .int .i64 b4] 62))) ⟨w.heap.size + 1, 0, none⟩ = some (.int .i64 a2) ∧ World.cell? (((((w.alloc (.cells #[.int .i64 s.r, .int .i64 s.q, .int .i64 s.p, .slice a.cA s.nA a.pA, .slice a.cB s.nB a.pB, .slice a.cC s.nC a.pC] 40)).alloc (.cells #[.int .i64 a2, .int .i64 b2] 62)).alloc (.cells #[.int .i64 a3, .int .i64 b3] 62)).alloc (.cells #[.int .i64 a4, .int .i64 b4] 62))) ⟨w.heap.size + 1, 1, none⟩ = some (.int .i64 b2) ∧ World.cell? (((((w.alloc (.cells #[.int .i64 s.r, .int .i64 s.q, .int .i64 s.p, .slice a.cA s.nA a.pA, .slice a.cB s.nB a.pB, .slice a.cC s.nC a.pC] 40)).alloc (.cells #[.int .i64 a2, .int .i64 b2] 62)).alloc (.cells #[.int .i64 a3, .int .i64 b3] 62)).alloc (.cells #[.int .i64 a4, .int .i64 b4] 62))) ⟨w.heap.size + 2, 0, none⟩ = some (.int .i64 a3) ∧ World.cell? (((((w.alloc (.cells #[.int .i64 s.r, .int .i64 s.q, .int .i64 s.p, .slice a.cA s.nA a.pA, .slice a.cB s.nB a.pB, .slice a.cC s.nC a.pC] 40)).alloc (.cells #[.int .i64 a2, .int .i64 b2] 62)).alloc (.cells #[.int .i64 a3, .int .i64 b3] 62)).alloc (.cells #[.int .i64 a4, .int .i64 b4] 62))) ⟨w.heap.size + 2, 1, none⟩ = some (.int .i64 b3) ∧ World.cell? (((((w.alloc (.cells #[.int .i64 s.r, .int .i64 s.q, .int .i64 s.p, .slice a.cA s.nA a.pA, .slice a.cB s.nB a.pB, .slice a.cC s.nC a.pC] 40)).alloc (.cells #[.int .i64 a2, .int .i64 b2] 62)).alloc (.cells #[.int .i64 a3, .int .i64 b3] 62)).alloc (.cells #[.int .i64 a4, .int .i64 b4] 62))) ⟨w.heap.size + 3, 0, none⟩ = some (.int .i64 a4) ∧ World.cell? (((((w.alloc (.cells #[.int .i64 s.r, .int .i64 s.q, .int .i64 s.p, .slice a.cA s.nA a.pA, .slice a.cB s.nB a.pB, .slice a.cC s.nC a.pC] 40)).alloc (.cells #[.int .i64 a2, .int .i64 b2] 62)).alloc (.cells #[.int .i64 a3, .int .i64 b3] 62)).alloc (.cells #[.int .i64 a4, .int .i64 b4] 62))) ⟨w.heap.size + 3, 1, none⟩ = some (.int .i64 b4)) from ⟨p0, p1, q0, q1, r0, r1⟩)
    clear x0 x1 x2 x3 x4 x5 p0 p1 q0 q1 r0 r1
    generalize ((((w.alloc (.cells #[.int .i64 s.r, .int .i64 s.q, .int .i64 s.p, .slice a.cA s.nA a.pA, .slice a.cB s.nB a.pB, .slice a.cC s.nC a.pC] 40)).alloc (.cells #[.int .i64 a2, .int .i64 b2] 62)).alloc (.cells #[.int .i64 a3, .int .i64 b3] 62)).alloc (.cells #[.int .i64 a4, .int .i64 b4] 62)) = B at KB BX EX ⊢
    obtain ⟨p0, p1, q0, q1, r0, r1⟩ := EX.out
    go_upto_region 4 with fail
    have KT := hik ((Chg.refl nob B).alloc (.cells #[.int .i64 a2, .int .i64 b2, .int .i64 a3, .int .i64 b3, .int .i64 a4, .int .i64 b4] 91))
    have PT := hik (rowNn B 6 #[.int .i64 a2, .int .i64 b2, .int .i64 a3, .int .i64 b3, .int .i64 a4, .int .i64 b4] 91 rfl)
    replace KB := hik (KB.out.trans KT.out)
    replace BX := hik (BX.out.keep KT.out)
    replace EX := hik (show World.cell? _ ⟨w.heap.size + 1, 0, none⟩ = some (.int .i64 a2) ∧ World.cell? _ ⟨w.heap.size + 1, 1, none⟩ = some (.int .i64 b2) ∧ World.cell? _ ⟨w.heap.size + 2, 0, none⟩ = some (.int .i64 a3) ∧ World.cell? _ ⟨w.heap.size + 2, 1, none⟩ = some (.int .i64 b3) ∧ World.cell? _ ⟨w.heap.size + 3, 0, none⟩ = some (.int .i64 a4) ∧ World.cell? _ ⟨w.heap.size + 3, 1, none⟩ = some (.int .i64 b4) from ⟨KT.out.see EX.out.1, KT.out.see EX.out.2.1, KT.out.see EX.out.2.2.1, KT.out.see EX.out.2.2.2.1, KT.out.see EX.out.2.2.2.2.1, KT.out.see EX.out.2.2.2.2.2⟩)
    clear p0 p1 q0 q1 r0 r1
    generalize hW0 : B.alloc (.cells #[.int .i64 a2, .int .i64 b2, .int .i64 a3, .int .i64 b3, .int .i64 a4, .int .i64 b4] 91) = W0 at KB BX EX PT ⊢
    clear hW0 KT
    have hgw := PT.out.lt
    generalize hGW : B.heap.size = gW at PT hgw ⊢
    clear hGW hgw
    obtain ⟨x0, x1, x2, x3, x4, x5⟩ := BX.out.six
    go_wp2_with fail
    refine (sysOK_any s a _ (hik (hv.out.keep KB.out)) hs).mono ?_
    rw [H2.out]
    rintro e W1 ⟨rfl, k1⟩
    replace KB := hik (KB.out.trans k1)
    replace BX := hik (BX.out.keep k1)
    replace EX := hik (show World.cell? _ ⟨w.heap.size + 1, 0, none⟩ = some (.int .i64 a2) ∧ World.cell? _ ⟨w.heap.size + 1, 1, none⟩ = some (.int .i64 b2) ∧ World.cell? _ ⟨w.heap.size + 2, 0, none⟩ = some (.int .i64 a3) ∧ World.cell? _ ⟨w.heap.size + 2, 1, none⟩ = some (.int .i64 b3) ∧ World.cell? _ ⟨w.heap.size + 3, 0, none⟩ = some (.int .i64 a4) ∧ World.cell? _ ⟨w.heap.size + 3, 1, none⟩ = some (.int .i64 b4) from ⟨k1.see EX.out.1, k1.see EX.out.2.1, k1.see EX.out.2.2.1, k1.see EX.out.2.2.2.1, k1.see EX.out.2.2.2.2.1, k1.see EX.out.2.2.2.2.2⟩)
    replace PT := hik (rowIs_keep PT.out k1)
    clear k1 x0 x1 x2 x3 x4 x5
    go_wp2
    go_ret2
    exact TbC.none HC.out HM.out KB.out
  | true =>
  have H2 := hik h2
  cases h3 : okP f g n with
  | false =>
    have HC := hik (show bdc s n f g (pk3 a2 a3 a4) (pk3 b2 b3 b4) = 1 by rw [hC, if_pos (.inr (.inl h3))])
    have HM := hik (show bdn s n f g (pk3 a2 a3 a4) (pk3 b2 b3 b4) = 0 by unfold bdn; rw [HC.out]; rfl)
    have H3 := hik h3
    clear hC h2 h3
    have KB := hik (((((Chg.refl nob w).alloc (.cells #[.int .i64 s.r, .int .i64 s.q, .int .i64 s.p, .slice a.cA s.nA a.pA, .slice a.cB s.nB a.pB, .slice a.cC s.nC a.pC] 40)).alloc (.cells #[.int .i64 a2, .int .i64 b2] 62)).alloc (.cells #[.int .i64 a3, .int .i64 b3] 62)).alloc (.cells #[.int .i64 a4, .int .i64 b4] 62))
    have x0 : World.cell? ((((w.alloc (.cells #[.int .i64 s.r, .int .i64 s.q, .int .i64 s.p, .slice a.cA s.nA a.pA, .slice a.cB s.nB a.pB, .slice a.cC s.nC a.pC] 40)).alloc (.cells #[.int .i64 a2, .int .i64 b2] 62)).alloc (.cells #[.int .i64 a3, .int .i64 b3] 62)).alloc (.cells #[.int .i64 a4, .int .i64 b4] 62)) ⟨w.heap.size, 0, none⟩ = some (.int .i64 s.r) := by go_simp
    have x1 : World.cell? ((((w.alloc (.cells #[.int .i64 s.r, .int .i64 s.q, .int .i64 s.p, .slice a.cA s.nA a.pA, .slice a.cB s.nB a.pB, .slice a.cC s.nC a.pC] 40)).alloc (.cells #[.int .i64 a2, .int .i64 b2] 62)).alloc (.cells #[.int .i64 a3, .int .i64 b3] 62)).alloc (.cells #[.int .i64 a4, .int .i64 b4] 62)) ⟨w.heap.size, 1, none⟩ = some (.int .i64 s.q) := by go_simp
    have x2 : World.cell? ((((w.alloc (.cells #[.int .i64 s.r, .int .i64 s.q, .int .i64 s.p, .slice a.cA s.nA a.pA, .slice a.cB s.nB a.pB, .slice a.cC s.nC a.pC] 40)).alloc (.cells #[.int .i64 a2, .int .i64 b2] 62)).alloc (.cells #[.int .i64 a3, .int .i64 b3] 62)).alloc (.cells #[.int .i64 a4, .int .i64 b4] 62)) ⟨w.heap.size, 2, none⟩ = some (.int .i64 s.p) := by go_simp
    have x3 : World.cell? ((((w.alloc (.cells #[.int .i64 s.r, .int .i64 s.q, .int .i64 s.p, .slice a.cA s.nA a.pA, .slice a.cB s.nB a.pB, .slice a.cC s.nC a.pC] 40)).alloc (.cells #[.int .i64 a2, .int .i64 b2] 62)).alloc (.cells #[.int .i64 a3, .int .i64 b3] 62)).alloc (.cells #[.int .i64 a4, .int .i64 b4] 62)) ⟨w.heap.size, 3, none⟩ = some (.slice a.cA s.nA a.pA) := by go_simp
    have x4 : World.cell? ((((w.alloc (.cells #[.int .i64 s.r, .int .i64 s.q, .int .i64 s.p, .slice a.cA s.nA a.pA, .slice a.cB s.nB a.pB, .slice a.cC s.nC a.pC] 40)).alloc (.cells #[.int .i64 a2, .int .i64 b2] 62)).alloc (.cells #[.int .i64 a3, .int .i64 b3] 62)).alloc (.cells #[.int .i64 a4, .int .i64 b4] 62)) ⟨w.heap.size, 4, none⟩ = some (.slice a.cB s.nB a.pB) := by go_simp
    have x5 : World.cell? ((((w.alloc (.cells #[.int .i64 s.r, .int .i64 s.q, .int .i64 s.p, .slice a.cA s.nA a.pA, .slice a.cB s.nB a.pB, .slice a.cC s.nC a.pC] 40)).alloc (.cells #[.int .i64 a2, .int .i64 b2] 62)).alloc (.cells #[.int .i64 a3, .int .i64 b3] 62)).alloc (.cells #[.int .i64 a4, .int .i64 b4] 62)) ⟨w.heap.size, 5, none⟩ = some (.slice a.cC s.nC a.pC) := by go_simp
    have p0 : World.cell? ((((w.alloc (.cells #[.int .i64 s.r, .int .i64 s.q, .int .i64 s.p, .slice a.cA s.nA a.pA, .slice a.cB s.nB a.pB, .slice a.cC s.nC a.pC] 40)).alloc (.cells #[.int .i64 a2, .int .i64 b2] 62)).alloc (.cells #[.int .i64 a3, .int .i64 b3] 62)).alloc (.cells #[.int .i64 a4, .int .i64 b4] 62)) ⟨w.heap.size + 1, 0, none⟩ = some (.int .i64 a2) := by go_simp
    have p1 : World.cell? ((((w.alloc (.cells #[.int .i64 s.r, .int .i64 s.q, .int .i64 s.p, .slice a.cA s.nA a.pA, .slice a.cB s.nB a.pB, .slice a.cC s.nC a.pC] 40)).alloc (.cells #[.int .i64 a2, .int .i64 b2] 62)).alloc (.cells #[.int .i64 a3, .int .i64 b3] 62)).alloc (.cells #[.int .i64 a4, .int .i64 b4] 62)) ⟨w.heap.size + 1, 1, none⟩ = some (.int .i64 b2) := by go_simp
    have q0 : World.cell? ((((w.alloc (.cells #[.int .i64 s.r, .int .i64 s.q, .int .i64 s.p, .slice a.cA s.nA a.pA, .slice a.cB s.nB a.pB, .slice a.cC s.nC a.pC] 40)).alloc (.cells #[.int .i64 a2, .int .i64 b2] 62)).alloc (.cells #[.int .i64 a3, .int .i64 b3] 62)).alloc (.cells #[.int .i64 a4, .int .i64 b4] 62)) ⟨w.heap.size + 2, 0, none⟩ = some (.int .i64 a3) := by go_simp
    have q1 : World.cell? ((((w.alloc (.cells #[.int .i64 s.r, .int .i64 s.q, .int .i64 s.p, .slice a.cA s.nA a.pA, .slice a.cB s.nB a.pB, .slice a.cC s.nC a.pC] 40)).alloc (.cells #[.int .i64 a2, .int .i64 b2] 62)).alloc (.cells #[.int .i64 a3, .int .i64 b3] 62)).alloc (.cells #[.int .i64 a4, .int .i64 b4] 62)) ⟨w.heap.size + 2, 1, none⟩ = some (.int .i64 b3) := by go_simp
    have r0 : World.cell? ((((w.alloc (.cells #[.int .i64 s.r, .int .i64 s.q, .int .i64 s.p, .slice a.cA s.nA a.pA, .slice a.cB s.nB a.pB, .slice a.cC s.nC a.pC] 40)).alloc (.cells #[.int .i64 a2, .int .i64 b2] 62)).alloc (.cells #[.int .i64 a3, .int .i64 b3] 62)).alloc (.cells #[.int .i64 a4, .int .i64 b4] 62)) ⟨w.heap.size + 3, 0, none⟩ = some (.int .i64 a4) := by go_simp
    have r1 : World.cell? ((((w.alloc (.cells #[.int .i64 s.r, .int .i64 s.q, .int .i64 s.p, .slice a.cA s.nA a.pA, .slice a.cB s.nB a.pB, .slice a.cC s.nC a.pC] 40)).alloc (.cells #[.int .i64 a2, .int .i64 b2] 62)).alloc (.cells #[.int .i64 a3, .int .i64 b3] 62)).alloc (.cells #[.int .i64 a4, .int .i64 b4] 62)) ⟨w.heap.size + 3, 1, none⟩ = some (.int .i64 b4) := by go_simp
    have BX := hik (cel6 x0 x1 x2 x3 x4 x5)
    go_enter Tryz.func25, Tryz.ntmps25
    go_upto_region 1 with fail
    have EX := hik (show (World.cell? (((((w.alloc (.cells #[.int .i64 s.r, .int .i64 s.q, .int .i64 s.p, .slice a.cA s.nA a.pA, .slice a.cB s.nB a.pB, .slice a.cC s.nC a.pC] 40)).alloc (.cells #[.int .i64 a2, .int .i64 b2] 62)).alloc (.cells #[.int .i64 a3, .int .i64 b3] 62)).alloc (.cells #[.int .i64 a4, .int .i64 b4] 62))) ⟨w.heap.size + 1, 0, none⟩ = some (.int .i64 a2) ∧ World.cell? (((((w.alloc (.cells #[.int .i64 s.r, .int .i64 s.q, .int .i64 s.p, .slice a.cA s.nA a.pA, .slice a.cB s.nB a.pB, .slice a.cC s.nC a.pC] 40)).alloc (.cells #[.int .i64 a2, .int .i64 b2] 62)).alloc (.cells #[.int .i64 a3, .int .i64 b3] 62)).alloc (.cells #[.int .i64 a4, .int .i64 b4] 62))) ⟨w.heap.size + 1, 1, none⟩ = some (.int .i64 b2) ∧ World.cell? (((((w.alloc (.cells #[.int .i64 s.r, .int .i64 s.q, .int .i64 s.p, .slice a.cA s.nA a.pA, .slice a.cB s.nB a.pB, .slice a.cC s.nC a.pC] 40)).alloc (.cells #[.int .i64 a2, .int .i64 b2] 62)).alloc (.cells #[.int .i64 a3, .int .i64 b3] 62)).alloc (.cells #[.int .i64 a4, .int .i64 b4] 62))) ⟨w.heap.size + 2, 0, none⟩ = some (.int .i64 a3) ∧ World.cell? (((((w.alloc (.cells #[.int .i64 s.r, .int .i64 s.q, .int .i64 s.p, .slice a.cA s.nA a.pA, .slice a.cB s.nB a.pB, .slice a.cC s.nC a.pC] 40)).alloc (.cells #[.int .i64 a2, .int .i64 b2] 62)).alloc (.cells #[.int .i64 a3, .int .i64 b3] 62)).alloc (.cells #[.int .i64 a4, .int .i64 b4] 62))) ⟨w.heap.size + 2, 1, none⟩ = some (.int .i64 b3) ∧ World.cell? (((((w.alloc (.cells #[.int .i64 s.r, .int .i64 s.q, .int .i64 s.p, .slice a.cA s.nA a.pA, .slice a.cB s.nB a.pB, .slice a.cC s.nC a.pC] 40)).alloc (.cells #[.int .i64 a2, .int .i64 b2] 62)).alloc (.cells #[.int .i64 a3, .int .i64 b3] 62)).alloc (.cells #[.int .i64 a4, .int .i64 b4] 62))) ⟨w.heap.size + 3, 0, none⟩ = some (.int .i64 a4) ∧ World.cell? (((((w.alloc (.cells #[.int .i64 s.r, .int .i64 s.q, .int .i64 s.p, .slice a.cA s.nA a.pA, .slice a.cB s.nB a.pB, .slice a.cC s.nC a.pC] 40)).alloc (.cells #[.int .i64 a2, .int .i64 b2] 62)).alloc (.cells #[.int .i64 a3, .int .i64 b3] 62)).alloc (.cells #[.int .i64 a4, .int .i64 b4] 62))) ⟨w.heap.size + 3, 1, none⟩ = some (.int .i64 b4)) from ⟨p0, p1, q0, q1, r0, r1⟩)
    clear x0 x1 x2 x3 x4 x5 p0 p1 q0 q1 r0 r1
    generalize ((((w.alloc (.cells #[.int .i64 s.r, .int .i64 s.q, .int .i64 s.p, .slice a.cA s.nA a.pA, .slice a.cB s.nB a.pB, .slice a.cC s.nC a.pC] 40)).alloc (.cells #[.int .i64 a2, .int .i64 b2] 62)).alloc (.cells #[.int .i64 a3, .int .i64 b3] 62)).alloc (.cells #[.int .i64 a4, .int .i64 b4] 62)) = B at KB BX EX ⊢
    obtain ⟨p0, p1, q0, q1, r0, r1⟩ := EX.out
    go_upto_region 4 with fail
    have KT := hik ((Chg.refl nob B).alloc (.cells #[.int .i64 a2, .int .i64 b2, .int .i64 a3, .int .i64 b3, .int .i64 a4, .int .i64 b4] 91))
    have PT := hik (rowNn B 6 #[.int .i64 a2, .int .i64 b2, .int .i64 a3, .int .i64 b3, .int .i64 a4, .int .i64 b4] 91 rfl)
    replace KB := hik (KB.out.trans KT.out)
    replace BX := hik (BX.out.keep KT.out)
    replace EX := hik (show World.cell? _ ⟨w.heap.size + 1, 0, none⟩ = some (.int .i64 a2) ∧ World.cell? _ ⟨w.heap.size + 1, 1, none⟩ = some (.int .i64 b2) ∧ World.cell? _ ⟨w.heap.size + 2, 0, none⟩ = some (.int .i64 a3) ∧ World.cell? _ ⟨w.heap.size + 2, 1, none⟩ = some (.int .i64 b3) ∧ World.cell? _ ⟨w.heap.size + 3, 0, none⟩ = some (.int .i64 a4) ∧ World.cell? _ ⟨w.heap.size + 3, 1, none⟩ = some (.int .i64 b4) from ⟨KT.out.see EX.out.1, KT.out.see EX.out.2.1, KT.out.see EX.out.2.2.1, KT.out.see EX.out.2.2.2.1, KT.out.see EX.out.2.2.2.2.1, KT.out.see EX.out.2.2.2.2.2⟩)
    clear p0 p1 q0 q1 r0 r1
    generalize hW0 : B.alloc (.cells #[.int .i64 a2, .int .i64 b2, .int .i64 a3, .int .i64 b3, .int .i64 a4, .int .i64 b4] 91) = W0 at KB BX EX PT ⊢
    clear hW0 KT
    have hgw := PT.out.lt
    generalize hGW : B.heap.size = gW at PT hgw ⊢
    clear hGW hgw
    obtain ⟨x0, x1, x2, x3, x4, x5⟩ := BX.out.six
    go_wp2_with fail
    refine (sysOK_any s a _ (hik (hv.out.keep KB.out)) hs).mono ?_
    rw [H2.out]
    rintro e W1 ⟨rfl, k1⟩
    replace KB := hik (KB.out.trans k1)
    replace BX := hik (BX.out.keep k1)
    replace EX := hik (show World.cell? _ ⟨w.heap.size + 1, 0, none⟩ = some (.int .i64 a2) ∧ World.cell? _ ⟨w.heap.size + 1, 1, none⟩ = some (.int .i64 b2) ∧ World.cell? _ ⟨w.heap.size + 2, 0, none⟩ = some (.int .i64 a3) ∧ World.cell? _ ⟨w.heap.size + 2, 1, none⟩ = some (.int .i64 b3) ∧ World.cell? _ ⟨w.heap.size + 3, 0, none⟩ = some (.int .i64 a4) ∧ World.cell? _ ⟨w.heap.size + 3, 1, none⟩ = some (.int .i64 b4) from ⟨k1.see EX.out.1, k1.see EX.out.2.1, k1.see EX.out.2.2.1, k1.see EX.out.2.2.2.1, k1.see EX.out.2.2.2.2.1, k1.see EX.out.2.2.2.2.2⟩)
    replace PT := hik (rowIs_keep PT.out k1)
    clear k1 x0 x1 x2 x3 x4 x5
    go_wp2_with fail
    refine (extsOK_any cx n capx f g _ (hik (PairV.keep hp.out KB.out)) hn).mono ?_
    rw [H3.out]
    rintro e W2 ⟨rfl, k2⟩
    replace KB := hik (KB.out.trans k2)
    replace BX := hik (BX.out.keep k2)
    replace EX := hik (show World.cell? _ ⟨w.heap.size + 1, 0, none⟩ = some (.int .i64 a2) ∧ World.cell? _ ⟨w.heap.size + 1, 1, none⟩ = some (.int .i64 b2) ∧ World.cell? _ ⟨w.heap.size + 2, 0, none⟩ = some (.int .i64 a3) ∧ World.cell? _ ⟨w.heap.size + 2, 1, none⟩ = some (.int .i64 b3) ∧ World.cell? _ ⟨w.heap.size + 3, 0, none⟩ = some (.int .i64 a4) ∧ World.cell? _ ⟨w.heap.size + 3, 1, none⟩ = some (.int .i64 b4) from ⟨k2.see EX.out.1, k2.see EX.out.2.1, k2.see EX.out.2.2.1, k2.see EX.out.2.2.2.1, k2.see EX.out.2.2.2.2.1, k2.see EX.out.2.2.2.2.2⟩)
    replace PT := hik (rowIs_keep PT.out k2)
    clear k2
    go_wp2
    go_ret2
    exact TbC.none HC.out HM.out KB.out
  | true =>
  have H3 := hik h3
  cases h4 : okP (pk3 a2 a3 a4) (pk3 b2 b3 b4) 3 with
  | false =>
    have HC := hik (show bdc s n f g (pk3 a2 a3 a4) (pk3 b2 b3 b4) = 1 by rw [hC, if_pos (.inr (.inr h4))])
    have HM := hik (show bdn s n f g (pk3 a2 a3 a4) (pk3 b2 b3 b4) = 0 by unfold bdn; rw [HC.out]; rfl)
    have H4 := hik h4
    clear hC h2 h3 h4
    have KB := hik (((((Chg.refl nob w).alloc (.cells #[.int .i64 s.r, .int .i64 s.q, .int .i64 s.p, .slice a.cA s.nA a.pA, .slice a.cB s.nB a.pB, .slice a.cC s.nC a.pC] 40)).alloc (.cells #[.int .i64 a2, .int .i64 b2] 62)).alloc (.cells #[.int .i64 a3, .int .i64 b3] 62)).alloc (.cells #[.int .i64 a4, .int .i64 b4] 62))
    have x0 : World.cell? ((((w.alloc (.cells #[.int .i64 s.r, .int .i64 s.q, .int .i64 s.p, .slice a.cA s.nA a.pA, .slice a.cB s.nB a.pB, .slice a.cC s.nC a.pC] 40)).alloc (.cells #[.int .i64 a2, .int .i64 b2] 62)).alloc (.cells #[.int .i64 a3, .int .i64 b3] 62)).alloc (.cells #[.int .i64 a4, .int .i64 b4] 62)) ⟨w.heap.size, 0, none⟩ = some (.int .i64 s.r) := by go_simp
    have x1 : World.cell? ((((w.alloc (.cells #[.int .i64 s.r, .int .i64 s.q, .int .i64 s.p, .slice a.cA s.nA a.pA, .slice a.cB s.nB a.pB, .slice a.cC s.nC a.pC] 40)).alloc (.cells #[.int .i64 a2, .int .i64 b2] 62)).alloc (.cells #[.int .i64 a3, .int .i64 b3] 62)).alloc (.cells #[.int .i64 a4, .int .i64 b4] 62)) ⟨w.heap.size, 1, none⟩ = some (.int .i64 s.q) := by go_simp
    have x2 : World.cell? ((((w.alloc (.cells #[.int .i64 s.r, .int .i64 s.q, .int .i64 s.p, .slice a.cA s.nA a.pA, .slice a.cB s.nB a.pB, .slice a.cC s.nC a.pC] 40)).alloc (.cells #[.int .i64 a2, .int .i64 b2] 62)).alloc (.cells #[.int .i64 a3, .int .i64 b3] 62)).alloc (.cells #[.int .i64 a4, .int .i64 b4] 62)) ⟨w.heap.size, 2, none⟩ = some (.int .i64 s.p) := by go_simp
    have x3 : World.cell? ((((w.alloc (.cells #[.int .i64 s.r, .int .i64 s.q, .int .i64 s.p, .slice a.cA s.nA a.pA, .slice a.cB s.nB a.pB, .slice a.cC s.nC a.pC] 40)).alloc (.cells #[.int .i64 a2, .int .i64 b2] 62)).alloc (.cells #[.int .i64 a3, .int .i64 b3] 62)).alloc (.cells #[.int .i64 a4, .int .i64 b4] 62)) ⟨w.heap.size, 3, none⟩ = some (.slice a.cA s.nA a.pA) := by go_simp
    have x4 : World.cell? ((((w.alloc (.cells #[.int .i64 s.r, .int .i64 s.q, .int .i64 s.p, .slice a.cA s.nA a.pA, .slice a.cB s.nB a.pB, .slice a.cC s.nC a.pC] 40)).alloc (.cells #[.int .i64 a2, .int .i64 b2] 62)).alloc (.cells #[.int .i64 a3, .int .i64 b3] 62)).alloc (.cells #[.int .i64 a4, .int .i64 b4] 62)) ⟨w.heap.size, 4, none⟩ = some (.slice a.cB s.nB a.pB) := by go_simp
    have x5 : World.cell? ((((w.alloc (.cells #[.int .i64 s.r, .int .i64 s.q, .int .i64 s.p, .slice a.cA s.nA a.pA, .slice a.cB s.nB a.pB, .slice a.cC s.nC a.pC] 40)).alloc (.cells #[.int .i64 a2, .int .i64 b2] 62)).alloc (.cells #[.int .i64 a3, .int .i64 b3] 62)).alloc (.cells #[.int .i64 a4, .int .i64 b4] 62)) ⟨w.heap.size, 5, none⟩ = some (.slice a.cC s.nC a.pC) := by go_simp
    have p0 : World.cell? ((((w.alloc (.cells #[.int .i64 s.r, .int .i64 s.q, .int .i64 s.p, .slice a.cA s.nA a.pA, .slice a.cB s.nB a.pB, .slice a.cC s.nC a.pC] 40)).alloc (.cells #[.int .i64 a2, .int .i64 b2] 62)).alloc (.cells #[.int .i64 a3, .int .i64 b3] 62)).alloc (.cells #[.int .i64 a4, .int .i64 b4] 62)) ⟨w.heap.size + 1, 0, none⟩ = some (.int .i64 a2) := by go_simp
    have p1 : World.cell? ((((w.alloc (.cells #[.int .i64 s.r, .int .i64 s.q, .int .i64 s.p, .slice a.cA s.nA a.pA, .slice a.cB s.nB a.pB, .slice a.cC s.nC a.pC] 40)).alloc (.cells #[.int .i64 a2, .int .i64 b2] 62)).alloc (.cells #[.int .i64 a3, .int .i64 b3] 62)).alloc (.cells #[.int .i64 a4, .int .i64 b4] 62)) ⟨w.heap.size + 1, 1, none⟩ = some (.int .i64 b2) := by go_simp
    have q0 : World.cell? ((((w.alloc (.cells #[.int .i64 s.r, .int .i64 s.q, .int .i64 s.p, .slice a.cA s.nA a.pA, .slice a.cB s.nB a.pB, .slice a.cC s.nC a.pC] 40)).alloc (.cells #[.int .i64 a2, .int .i64 b2] 62)).alloc (.cells #[.int .i64 a3, .int .i64 b3] 62)).alloc (.cells #[.int .i64 a4, .int .i64 b4] 62)) ⟨w.heap.size + 2, 0, none⟩ = some (.int .i64 a3) := by go_simp
    have q1 : World.cell? ((((w.alloc (.cells #[.int .i64 s.r, .int .i64 s.q, .int .i64 s.p, .slice a.cA s.nA a.pA, .slice a.cB s.nB a.pB, .slice a.cC s.nC a.pC] 40)).alloc (.cells #[.int .i64 a2, .int .i64 b2] 62)).alloc (.cells #[.int .i64 a3, .int .i64 b3] 62)).alloc (.cells #[.int .i64 a4, .int .i64 b4] 62)) ⟨w.heap.size + 2, 1, none⟩ = some (.int .i64 b3) := by go_simp
    have r0 : World.cell? ((((w.alloc (.cells #[.int .i64 s.r, .int .i64 s.q, .int .i64 s.p, .slice a.cA s.nA a.pA, .slice a.cB s.nB a.pB, .slice a.cC s.nC a.pC] 40)).alloc (.cells #[.int .i64 a2, .int .i64 b2] 62)).alloc (.cells #[.int .i64 a3, .int .i64 b3] 62)).alloc (.cells #[.int .i64 a4, .int .i64 b4] 62)) ⟨w.heap.size + 3, 0, none⟩ = some (.int .i64 a4) := by go_simp
    have r1 : World.cell? ((((w.alloc (.cells #[.int .i64 s.r, .int .i64 s.q, .int .i64 s.p, .slice a.cA s.nA a.pA, .slice a.cB s.nB a.pB, .slice a.cC s.nC a.pC] 40)).alloc (.cells #[.int .i64 a2, .int .i64 b2] 62)).alloc (.cells #[.int .i64 a3, .int .i64 b3] 62)).alloc (.cells #[.int .i64 a4, .int .i64 b4] 62)) ⟨w.heap.size + 3, 1, none⟩ = some (.int .i64 b4) := by go_simp
    have BX := hik (cel6 x0 x1 x2 x3 x4 x5)
    go_enter Tryz.func25, Tryz.ntmps25
    go_upto_region 1 with fail
    have EX := hik (show (World.cell? (((((w.alloc (.cells #[.int .i64 s.r, .int .i64 s.q, .int .i64 s.p, .slice a.cA s.nA a.pA, .slice a.cB s.nB a.pB, .slice a.cC s.nC a.pC] 40)).alloc (.cells #[.int .i64 a2, .int .i64 b2] 62)).alloc (.cells #[.int .i64 a3, .int .i64 b3] 62)).alloc (.cells #[.int .i64 a4, .int .i64 b4] 62))) ⟨w.heap.size + 1, 0, none⟩ = some (.int .i64 a2) ∧ World.cell? (((((w.alloc (.cells #[.int .i64 s.r, .int .i64 s.q, .int .i64 s.p, .slice a.cA s.nA a.pA, .slice a.cB s.nB a.pB, .slice a.cC s.nC a.pC] 40)).alloc (.cells #[.int .i64 a2, .int .i64 b2] 62)).alloc (.cells #[.int .i64 a3, .int .i64 b3] 62)).alloc (.cells #[.int .i64 a4, .int .i64 b4] 62))) ⟨w.heap.size + 1, 1, none⟩ = some (.int .i64 b2) ∧ World.cell? (((((w.alloc (.cells #[.int .i64 s.r, .int .i64 s.q, .int .i64 s.p, .slice a.cA s.nA a.pA, .slice a.cB s.nB a.pB, .slice a.cC s.nC a.pC] 40)).alloc (.cells #[.int .i64 a2, .int .i64 b2] 62)).alloc (.cells #[.int .i64 a3, .int .i64 b3] 62)).alloc (.cells #[.int .i64 a4, .int .i64 b4] 62))) ⟨w.heap.size + 2, 0, none⟩ = some (.int .i64 a3) ∧ World.cell? (((((w.alloc (.cells #[.int .i64 s.r, .int .i64 s.q, .int .i64 s.p, .slice a.cA s.nA a.pA, .slice a.cB s.nB a.pB, .slice a.cC s.nC a.pC] 40)).alloc (.cells #[.int .i64 a2, .int .i64 b2] 62)).alloc (.cells #[.int .i64 a3, .int .i64 b3] 62)).alloc (.cells #[.int .i64 a4, .int .i64 b4] 62))) ⟨w.heap.size + 2, 1, none⟩ = some (.int .i64 b3) ∧ World.cell? (((((w.alloc (.cells #[.int .i64 s.r, .int .i64 s.q, .int .i64 s.p, .slice a.cA s.nA a.pA, .slice a.cB s.nB a.pB, .slice a.cC s.nC a.pC] 40)).alloc (.cells #[.int .i64 a2, .int .i64 b2] 62)).alloc (.cells #[.int .i64 a3, .int .i64 b3] 62)).alloc (.cells #[.int .i64 a4, .int .i64 b4] 62))) ⟨w.heap.size + 3, 0, none⟩ = some (.int .i64 a4) ∧ World.cell? (((((w.alloc (.cells #[.int .i64 s.r, .int .i64 s.q, .int .i64 s.p, .slice a.cA s.nA a.pA, .slice a.cB s.nB a.pB, .slice a.cC s.nC a.pC] 40)).alloc (.cells #[.int .i64 a2, .int .i64 b2] 62)).alloc (.cells #[.int .i64 a3, .int .i64 b3] 62)).alloc (.cells #[.int .i64 a4, .int .i64 b4] 62))) ⟨w.heap.size + 3, 1, none⟩ = some (.int .i64 b4)) from ⟨p0, p1, q0, q1, r0, r1⟩)
    clear x0 x1 x2 x3 x4 x5 p0 p1 q0 q1 r0 r1
    generalize ((((w.alloc (.cells #[.int .i64 s.r, .int .i64 s.q, .int .i64 s.p, .slice a.cA s.nA a.pA, .slice a.cB s.nB a.pB, .slice a.cC s.nC a.pC] 40)).alloc (.cells #[.int .i64 a2, .int .i64 b2] 62)).alloc (.cells #[.int .i64 a3, .int .i64 b3] 62)).alloc (.cells #[.int .i64 a4, .int .i64 b4] 62)) = B at KB BX EX ⊢
    obtain ⟨p0, p1, q0, q1, r0, r1⟩ := EX.out
    go_upto_region 4 with fail
    have KT := hik ((Chg.refl nob B).alloc (.cells #[.int .i64 a2, .int .i64 b2, .int .i64 a3, .int .i64 b3, .int .i64 a4, .int .i64 b4] 91))
    have PT := hik (rowNn B 6 #[.int .i64 a2, .int .i64 b2, .int .i64 a3, .int .i64 b3, .int .i64 a4, .int .i64 b4] 91 rfl)
    replace KB := hik (KB.out.trans KT.out)
    replace BX := hik (BX.out.keep KT.out)
    replace EX := hik (show World.cell? _ ⟨w.heap.size + 1, 0, none⟩ = some (.int .i64 a2) ∧ World.cell? _ ⟨w.heap.size + 1, 1, none⟩ = some (.int .i64 b2) ∧ World.cell? _ ⟨w.heap.size + 2, 0, none⟩ = some (.int .i64 a3) ∧ World.cell? _ ⟨w.heap.size + 2, 1, none⟩ = some (.int .i64 b3) ∧ World.cell? _ ⟨w.heap.size + 3, 0, none⟩ = some (.int .i64 a4) ∧ World.cell? _ ⟨w.heap.size + 3, 1, none⟩ = some (.int .i64 b4) from ⟨KT.out.see EX.out.1, KT.out.see EX.out.2.1, KT.out.see EX.out.2.2.1, KT.out.see EX.out.2.2.2.1, KT.out.see EX.out.2.2.2.2.1, KT.out.see EX.out.2.2.2.2.2⟩)
    clear p0 p1 q0 q1 r0 r1
    generalize hW0 : B.alloc (.cells #[.int .i64 a2, .int .i64 b2, .int .i64 a3, .int .i64 b3, .int .i64 a4, .int .i64 b4] 91) = W0 at KB BX EX PT ⊢
    clear hW0 KT
    have hgw := PT.out.lt
    generalize hGW : B.heap.size = gW at PT hgw ⊢
    clear hGW hgw
    obtain ⟨x0, x1, x2, x3, x4, x5⟩ := BX.out.six
    go_wp2_with fail
    refine (sysOK_any s a _ (hik (hv.out.keep KB.out)) hs).mono ?_
    rw [H2.out]
    rintro e W1 ⟨rfl, k1⟩
    replace KB := hik (KB.out.trans k1)
    replace BX := hik (BX.out.keep k1)
    replace EX := hik (show World.cell? _ ⟨w.heap.size + 1, 0, none⟩ = some (.int .i64 a2) ∧ World.cell? _ ⟨w.heap.size + 1, 1, none⟩ = some (.int .i64 b2) ∧ World.cell? _ ⟨w.heap.size + 2, 0, none⟩ = some (.int .i64 a3) ∧ World.cell? _ ⟨w.heap.size + 2, 1, none⟩ = some (.int .i64 b3) ∧ World.cell? _ ⟨w.heap.size + 3, 0, none⟩ = some (.int .i64 a4) ∧ World.cell? _ ⟨w.heap.size + 3, 1, none⟩ = some (.int .i64 b4) from ⟨k1.see EX.out.1, k1.see EX.out.2.1, k1.see EX.out.2.2.1, k1.see EX.out.2.2.2.1, k1.see EX.out.2.2.2.2.1, k1.see EX.out.2.2.2.2.2⟩)
    replace PT := hik (rowIs_keep PT.out k1)
    clear k1 x0 x1 x2 x3 x4 x5
    go_wp2_with fail
    refine (extsOK_any cx n capx f g _ (hik (PairV.keep hp.out KB.out)) hn).mono ?_
    rw [H3.out]
    rintro e W2 ⟨rfl, k2⟩
    replace KB := hik (KB.out.trans k2)
    replace BX := hik (BX.out.keep k2)
    replace EX := hik (show World.cell? _ ⟨w.heap.size + 1, 0, none⟩ = some (.int .i64 a2) ∧ World.cell? _ ⟨w.heap.size + 1, 1, none⟩ = some (.int .i64 b2) ∧ World.cell? _ ⟨w.heap.size + 2, 0, none⟩ = some (.int .i64 a3) ∧ World.cell? _ ⟨w.heap.size + 2, 1, none⟩ = some (.int .i64 b3) ∧ World.cell? _ ⟨w.heap.size + 3, 0, none⟩ = some (.int .i64 a4) ∧ World.cell? _ ⟨w.heap.size + 3, 1, none⟩ = some (.int .i64 b4) from ⟨k2.see EX.out.1, k2.see EX.out.2.1, k2.see EX.out.2.2.1, k2.see EX.out.2.2.2.1, k2.see EX.out.2.2.2.2.1, k2.see EX.out.2.2.2.2.2⟩)
    replace PT := hik (rowIs_keep PT.out k2)
    clear k2
    have hgl := PT.out.lt
    go_wp2_with fail
    refine (extsOK_any _ 3 3 (pk3 a2 a3 a4) (pk3 b2 b3 b4) _ (hik (pairs3r PT.out)) (by omega)).mono ?_
    rw [H4.out]
    rintro e W3 ⟨rfl, k3⟩
    replace KB := hik (KB.out.trans k3)
    replace BX := hik (BX.out.keep k3)
    replace EX := hik (show World.cell? _ ⟨w.heap.size + 1, 0, none⟩ = some (.int .i64 a2) ∧ World.cell? _ ⟨w.heap.size + 1, 1, none⟩ = some (.int .i64 b2) ∧ World.cell? _ ⟨w.heap.size + 2, 0, none⟩ = some (.int .i64 a3) ∧ World.cell? _ ⟨w.heap.size + 2, 1, none⟩ = some (.int .i64 b3) ∧ World.cell? _ ⟨w.heap.size + 3, 0, none⟩ = some (.int .i64 a4) ∧ World.cell? _ ⟨w.heap.size + 3, 1, none⟩ = some (.int .i64 b4) from ⟨k3.see EX.out.1, k3.see EX.out.2.1, k3.see EX.out.2.2.1, k3.see EX.out.2.2.2.1, k3.see EX.out.2.2.2.2.1, k3.see EX.out.2.2.2.2.2⟩)
    replace PT := hik (rowIs_keep PT.out k3)
    clear k3 hgl
    go_wp2
    go_ret2
    exact TbC.none HC.out HM.out KB.out
  | true =>
  have H4 := hik h4
  rw [if_neg (by rw [h2, h3, h4]; simp)] at hC
  by_cases h5 : ¬ (n : Int) = s.r
  · have HC := hik (show bdc s n f g (pk3 a2 a3 a4) (pk3 b2 b3 b4) = 8 by rw [hC, if_pos h5])
    have HM := hik (show bdn s n f g (pk3 a2 a3 a4) (pk3 b2 b3 b4) = 0 by unfold bdn; rw [HC.out]; rfl)
    clear hC h2 h3 h4
    have h5' : ((n : Int) != s.r) = true := by simpa using h5
    have KB := hik (((((Chg.refl nob w).alloc (.cells #[.int .i64 s.r, .int .i64 s.q, .int .i64 s.p, .slice a.cA s.nA a.pA, .slice a.cB s.nB a.pB, .slice a.cC s.nC a.pC] 40)).alloc (.cells #[.int .i64 a2, .int .i64 b2] 62)).alloc (.cells #[.int .i64 a3, .int .i64 b3] 62)).alloc (.cells #[.int .i64 a4, .int .i64 b4] 62))
    have x0 : World.cell? ((((w.alloc (.cells #[.int .i64 s.r, .int .i64 s.q, .int .i64 s.p, .slice a.cA s.nA a.pA, .slice a.cB s.nB a.pB, .slice a.cC s.nC a.pC] 40)).alloc (.cells #[.int .i64 a2, .int .i64 b2] 62)).alloc (.cells #[.int .i64 a3, .int .i64 b3] 62)).alloc (.cells #[.int .i64 a4, .int .i64 b4] 62)) ⟨w.heap.size, 0, none⟩ = some (.int .i64 s.r) := by go_simp
    have x1 : World.cell? ((((w.alloc (.cells #[.int .i64 s.r, .int .i64 s.q, .int .i64 s.p, .slice a.cA s.nA a.pA, .slice a.cB s.nB a.pB, .slice a.cC s.nC a.pC] 40)).alloc (.cells #[.int .i64 a2, .int .i64 b2] 62)).alloc (.cells #[.int .i64 a3, .int .i64 b3] 62)).alloc (.cells #[.int .i64 a4, .int .i64 b4] 62)) ⟨w.heap.size, 1, none⟩ = some (.int .i64 s.q) := by go_simp
    have x2 : World.cell? ((((w.alloc (.cells #[.int .i64 s.r, .int .i64 s.q, .int .i64 s.p, .slice a.cA s.nA a.pA, .slice a.cB s.nB a.pB, .slice a.cC s.nC a.pC] 40)).alloc (.cells #[.int .i64 a2, .int .i64 b2] 62)).alloc (.cells #[.int .i64 a3, .int .i64 b3] 62)).alloc (.cells #[.int .i64 a4, .int .i64 b4] 62)) ⟨w.heap.size, 2, none⟩ = some (.int .i64 s.p) := by go_simp
    have x3 : World.cell? ((((w.alloc (.cells #[.int .i64 s.r, .int .i64 s.q, .int .i64 s.p, .slice a.cA s.nA a.pA, .slice a.cB s.nB a.pB, .slice a.cC s.nC a.pC] 40)).alloc (.cells #[.int .i64 a2, .int .i64 b2] 62)).alloc (.cells #[.int .i64 a3, .int .i64 b3] 62)).alloc (.cells #[.int .i64 a4, .int .i64 b4] 62)) ⟨w.heap.size, 3, none⟩ = some (.slice a.cA s.nA a.pA) := by go_simp
    have x4 : World.cell? ((((w.alloc (.cells #[.int .i64 s.r, .int .i64 s.q, .int .i64 s.p, .slice a.cA s.nA a.pA, .slice a.cB s.nB a.pB, .slice a.cC s.nC a.pC] 40)).alloc (.cells #[.int .i64 a2, .int .i64 b2] 62)).alloc (.cells #[.int .i64 a3, .int .i64 b3] 62)).alloc (.cells #[.int .i64 a4, .int .i64 b4] 62)) ⟨w.heap.size, 4, none⟩ = some (.slice a.cB s.nB a.pB) := by go_simp
    have x5 : World.cell? ((((w.alloc (.cells #[.int .i64 s.r, .int .i64 s.q, .int .i64 s.p, .slice a.cA s.nA a.pA, .slice a.cB s.nB a.pB, .slice a.cC s.nC a.pC] 40)).alloc (.cells #[.int .i64 a2, .int .i64 b2] 62)).alloc (.cells #[.int .i64 a3, .int .i64 b3] 62)).alloc (.cells #[.int .i64 a4, .int .i64 b4] 62)) ⟨w.heap.size, 5, none⟩ = some (.slice a.cC s.nC a.pC) := by go_simp
    have p0 : World.cell? ((((w.alloc (.cells #[.int .i64 s.r, .int .i64 s.q, .int .i64 s.p, .slice a.cA s.nA a.pA, .slice a.cB s.nB a.pB, .slice a.cC s.nC a.pC] 40)).alloc (.cells #[.int .i64 a2, .int .i64 b2] 62)).alloc (.cells #[.int .i64 a3, .int .i64 b3] 62)).alloc (.cells #[.int .i64 a4, .int .i64 b4] 62)) ⟨w.heap.size + 1, 0, none⟩ = some (.int .i64 a2) := by go_simp
    have p1 : World.cell? ((((w.alloc (.cells #[.int .i64 s.r, .int .i64 s.q, .int .i64 s.p, .slice a.cA s.nA a.pA, .slice a.cB s.nB a.pB, .slice a.cC s.nC a.pC] 40)).alloc (.cells #[.int .i64 a2, .int .i64 b2] 62)).alloc (.cells #[.int .i64 a3, .int .i64 b3] 62)).alloc (.cells #[.int .i64 a4, .int .i64 b4] 62)) ⟨w.heap.size + 1, 1, none⟩ = some (.int .i64 b2) := by go_simp
    have q0 : World.cell? ((((w.alloc (.cells #[.int .i64 s.r, .int .i64 s.q, .int .i64 s.p, .slice a.cA s.nA a.pA, .slice a.cB s.nB a.pB, .slice a.cC s.nC a.pC] 40)).alloc (.cells #[.int .i64 a2, .int .i64 b2] 62)).alloc (.cells #[.int .i64 a3, .int .i64 b3] 62)).alloc (.cells #[.int .i64 a4, .int .i64 b4] 62)) ⟨w.heap.size + 2, 0, none⟩ = some (.int .i64 a3) := by go_simp
    have q1 : World.cell? ((((w.alloc (.cells #[.int .i64 s.r, .int .i64 s.q, .int .i64 s.p, .slice a.cA s.nA a.pA, .slice a.cB s.nB a.pB, .slice a.cC s.nC a.pC] 40)).alloc (.cells #[.int .i64 a2, .int .i64 b2] 62)).alloc (.cells #[.int .i64 a3, .int .i64 b3] 62)).alloc (.cells #[.int .i64 a4, .int .i64 b4] 62)) ⟨w.heap.size + 2, 1, none⟩ = some (.int .i64 b3) := by go_simp
    have r0 : World.cell? ((((w.alloc (.cells #[.int .i64 s.r, .int .i64 s.q, .int .i64 s.p, .slice a.cA s.nA a.pA, .slice a.cB s.nB a.pB, .slice a.cC s.nC a.pC] 40)).alloc (.cells #[.int .i64 a2, .int .i64 b2] 62)).alloc (.cells #[.int .i64 a3, .int .i64 b3] 62)).alloc (.cells #[.int .i64 a4, .int .i64 b4] 62)) ⟨w.heap.size + 3, 0, none⟩ = some (.int .i64 a4) := by go_simp
    have r1 : World.cell? ((((w.alloc (.cells #[.int .i64 s.r, .int .i64 s.q, .int .i64 s.p, .slice a.cA s.nA a.pA, .slice a.cB s.nB a.pB, .slice a.cC s.nC a.pC] 40)).alloc (.cells #[.int .i64 a2, .int .i64 b2] 62)).alloc (.cells #[.int .i64 a3, .int .i64 b3] 62)).alloc (.cells #[.int .i64 a4, .int .i64 b4] 62)) ⟨w.heap.size + 3, 1, none⟩ = some (.int .i64 b4) := by go_simp
    have BX := hik (cel6 x0 x1 x2 x3 x4 x5)
    go_enter Tryz.func25, Tryz.ntmps25
    go_upto_region 1 with fail
    have EX := hik (show (World.cell? (((((w.alloc (.cells #[.int .i64 s.r, .int .i64 s.q, .int .i64 s.p, .slice a.cA s.nA a.pA, .slice a.cB s.nB a.pB, .slice a.cC s.nC a.pC] 40)).alloc (.cells #[.int .i64 a2, .int .i64 b2] 62)).alloc (.cells #[.int .i64 a3, .int .i64 b3] 62)).alloc (.cells #[.int .i64 a4, .int .i64 b4] 62))) ⟨w.heap.size + 1, 0, none⟩ = some (.int .i64 a2) ∧ World.cell? (((((w.alloc (.cells #[.int .i64 s.r, .int .i64 s.q, .int .i64 s.p, .slice a.cA s.nA a.pA, .slice a.cB s.nB a.pB, .slice a.cC s.nC a.pC] 40)).alloc (.cells #[.int .i64 a2, .int .i64 b2] 62)).alloc (.cells #[.int .i64 a3, .int .i64 b3] 62)).alloc (.cells #[.int .i64 a4, .int .i64 b4] 62))) ⟨w.heap.size + 1, 1, none⟩ = some (.int .i64 b2) ∧ World.cell? (((((w.alloc (.cells #[.int .i64 s.r, .int .i64 s.q, .int .i64 s.p, .slice a.cA s.nA a.pA, .slice a.cB s.nB a.pB, .slice a.cC s.nC a.pC] 40)).alloc (.cells #[.int .i64 a2, .int .i64 b2] 62)).alloc (.cells #[.int .i64 a3, .int .i64 b3] 62)).alloc (.cells #[.int .i64 a4, .int .i64 b4] 62))) ⟨w.heap.size + 2, 0, none⟩ = some (.int .i64 a3) ∧ World.cell? (((((w.alloc (.cells #[.int .i64 s.r, .int .i64 s.q, .int .i64 s.p, .slice a.cA s.nA a.pA, .slice a.cB s.nB a.pB, .slice a.cC s.nC a.pC] 40)).alloc (.cells #[.int .i64 a2, .int .i64 b2] 62)).alloc (.cells #[.int .i64 a3, .int .i64 b3] 62)).alloc (.cells #[.int .i64 a4, .int .i64 b4] 62))) ⟨w.heap.size + 2, 1, none⟩ = some (.int .i64 b3) ∧ World.cell? (((((w.alloc (.cells #[.int .i64 s.r, .int .i64 s.q, .int .i64 s.p, .slice a.cA s.nA a.pA, .slice a.cB s.nB a.pB, .slice a.cC s.nC a.pC] 40)).alloc (.cells #[.int .i64 a2, .int .i64 b2] 62)).alloc (.cells #[.int .i64 a3, .int .i64 b3] 62)).alloc (.cells #[.int .i64 a4, .int .i64 b4] 62))) ⟨w.heap.size + 3, 0, none⟩ = some (.int .i64 a4) ∧ World.cell? (((((w.alloc (.cells #[.int .i64 s.r, .int .i64 s.q, .int .i64 s.p, .slice a.cA s.nA a.pA, .slice a.cB s.nB a.pB, .slice a.cC s.nC a.pC] 40)).alloc (.cells #[.int .i64 a2, .int .i64 b2] 62)).alloc (.cells #[.int .i64 a3, .int .i64 b3] 62)).alloc (.cells #[.int .i64 a4, .int .i64 b4] 62))) ⟨w.heap.size + 3, 1, none⟩ = some (.int .i64 b4)) from ⟨p0, p1, q0, q1, r0, r1⟩)
    clear x0 x1 x2 x3 x4 x5 p0 p1 q0 q1 r0 r1
    generalize ((((w.alloc (.cells #[.int .i64 s.r, .int .i64 s.q, .int .i64 s.p, .slice a.cA s.nA a.pA, .slice a.cB s.nB a.pB, .slice a.cC s.nC a.pC] 40)).alloc (.cells #[.int .i64 a2, .int .i64 b2] 62)).alloc (.cells #[.int .i64 a3, .int .i64 b3] 62)).alloc (.cells #[.int .i64 a4, .int .i64 b4] 62)) = B at KB BX EX ⊢
    obtain ⟨p0, p1, q0, q1, r0, r1⟩ := EX.out
    go_upto_region 4 with fail
    have KT := hik ((Chg.refl nob B).alloc (.cells #[.int .i64 a2, .int .i64 b2, .int .i64 a3, .int .i64 b3, .int .i64 a4, .int .i64 b4] 91))
    have PT := hik (rowNn B 6 #[.int .i64 a2, .int .i64 b2, .int .i64 a3, .int .i64 b3, .int .i64 a4, .int .i64 b4] 91 rfl)
    replace KB := hik (KB.out.trans KT.out)
    replace BX := hik (BX.out.keep KT.out)
    replace EX := hik (show World.cell? _ ⟨w.heap.size + 1, 0, none⟩ = some (.int .i64 a2) ∧ World.cell? _ ⟨w.heap.size + 1, 1, none⟩ = some (.int .i64 b2) ∧ World.cell? _ ⟨w.heap.size + 2, 0, none⟩ = some (.int .i64 a3) ∧ World.cell? _ ⟨w.heap.size + 2, 1, none⟩ = some (.int .i64 b3) ∧ World.cell? _ ⟨w.heap.size + 3, 0, none⟩ = some (.int .i64 a4) ∧ World.cell? _ ⟨w.heap.size + 3, 1, none⟩ = some (.int .i64 b4) from ⟨KT.out.see EX.out.1, KT.out.see EX.out.2.1, KT.out.see EX.out.2.2.1, KT.out.see EX.out.2.2.2.1, KT.out.see EX.out.2.2.2.2.1, KT.out.see EX.out.2.2.2.2.2⟩)
    clear p0 p1 q0 q1 r0 r1
    generalize hW0 : B.alloc (.cells #[.int .i64 a2, .int .i64 b2, .int .i64 a3, .int .i64 b3, .int .i64 a4, .int .i64 b4] 91) = W0 at KB BX EX PT ⊢
    clear hW0 KT
    have hgw := PT.out.lt
    generalize hGW : B.heap.size = gW at PT hgw ⊢
    clear hGW hgw
    obtain ⟨x0, x1, x2, x3, x4, x5⟩ := BX.out.six
    go_wp2_with fail
    refine (sysOK_any s a _ (hik (hv.out.keep KB.out)) hs).mono ?_
    rw [H2.out]
    rintro e W1 ⟨rfl, k1⟩
    replace KB := hik (KB.out.trans k1)
    replace BX := hik (BX.out.keep k1)
    replace EX := hik (show World.cell? _ ⟨w.heap.size + 1, 0, none⟩ = some (.int .i64 a2) ∧ World.cell? _ ⟨w.heap.size + 1, 1, none⟩ = some (.int .i64 b2) ∧ World.cell? _ ⟨w.heap.size + 2, 0, none⟩ = some (.int .i64 a3) ∧ World.cell? _ ⟨w.heap.size + 2, 1, none⟩ = some (.int .i64 b3) ∧ World.cell? _ ⟨w.heap.size + 3, 0, none⟩ = some (.int .i64 a4) ∧ World.cell? _ ⟨w.heap.size + 3, 1, none⟩ = some (.int .i64 b4) from ⟨k1.see EX.out.1, k1.see EX.out.2.1, k1.see EX.out.2.2.1, k1.see EX.out.2.2.2.1, k1.see EX.out.2.2.2.2.1, k1.see EX.out.2.2.2.2.2⟩)
    replace PT := hik (rowIs_keep PT.out k1)
    clear k1 x0 x1 x2 x3 x4 x5
    go_wp2_with fail
    refine (extsOK_any cx n capx f g _ (hik (PairV.keep hp.out KB.out)) hn).mono ?_
    rw [H3.out]
    rintro e W2 ⟨rfl, k2⟩
    replace KB := hik (KB.out.trans k2)
    replace BX := hik (BX.out.keep k2)
    replace EX := hik (show World.cell? _ ⟨w.heap.size + 1, 0, none⟩ = some (.int .i64 a2) ∧ World.cell? _ ⟨w.heap.size + 1, 1, none⟩ = some (.int .i64 b2) ∧ World.cell? _ ⟨w.heap.size + 2, 0, none⟩ = some (.int .i64 a3) ∧ World.cell? _ ⟨w.heap.size + 2, 1, none⟩ = some (.int .i64 b3) ∧ World.cell? _ ⟨w.heap.size + 3, 0, none⟩ = some (.int .i64 a4) ∧ World.cell? _ ⟨w.heap.size + 3, 1, none⟩ = some (.int .i64 b4) from ⟨k2.see EX.out.1, k2.see EX.out.2.1, k2.see EX.out.2.2.1, k2.see EX.out.2.2.2.1, k2.see EX.out.2.2.2.2.1, k2.see EX.out.2.2.2.2.2⟩)
    replace PT := hik (rowIs_keep PT.out k2)
    clear k2
    have hgl := PT.out.lt
    go_wp2_with fail
    refine (extsOK_any _ 3 3 (pk3 a2 a3 a4) (pk3 b2 b3 b4) _ (hik (pairs3r PT.out)) (by omega)).mono ?_
    rw [H4.out]
    rintro e W3 ⟨rfl, k3⟩
    replace KB := hik (KB.out.trans k3)
    replace BX := hik (BX.out.keep k3)
    replace EX := hik (show World.cell? _ ⟨w.heap.size + 1, 0, none⟩ = some (.int .i64 a2) ∧ World.cell? _ ⟨w.heap.size + 1, 1, none⟩ = some (.int .i64 b2) ∧ World.cell? _ ⟨w.heap.size + 2, 0, none⟩ = some (.int .i64 a3) ∧ World.cell? _ ⟨w.heap.size + 2, 1, none⟩ = some (.int .i64 b3) ∧ World.cell? _ ⟨w.heap.size + 3, 0, none⟩ = some (.int .i64 a4) ∧ World.cell? _ ⟨w.heap.size + 3, 1, none⟩ = some (.int .i64 b4) from ⟨k3.see EX.out.1, k3.see EX.out.2.1, k3.see EX.out.2.2.1, k3.see EX.out.2.2.2.1, k3.see EX.out.2.2.2.2.1, k3.see EX.out.2.2.2.2.2⟩)
    replace PT := hik (rowIs_keep PT.out k3)
    clear k3 hgl
    obtain ⟨x0, x1, x2, x3, x4, x5⟩ := BX.out.six
    go_wp2
    go_ret2
    exact TbC.none HC.out HM.out KB.out
  have h5 : (n : Int) = s.r := by omega
  have HC := hik (show bdc s n f g (pk3 a2 a3 a4) (pk3 b2 b3 b4) = 0 by rw [hC, if_neg (by omega)])
  obtain ⟨rr, mm, er, eq_, r1, r5, m1, m4, _⟩ := sysb_parts h2
  have hq : s.q = ((mm + 1 : Nat) : Int) := eq_
  obtain ⟨M, hMM⟩ : ∃ M, M = mm + 1 := ⟨_, rfl⟩
  rw [← hMM] at hq
  have hM5 : M ≤ 5 := by omega
  have hn5 : n ≤ 5 := by omega
  have HMq := hik (show s.q.toNat = M by rw [hq, Int.toNat_natCast])
  have HRq := hik (show s.r.toNat = n by rw [← h5, Int.toNat_natCast])
  have HN := hik (show bdn s n f g (pk3 a2 a3 a4) (pk3 b2 b3 b4) = 2 ^ M by unfold bdn; rw [HC.out, HMq.out]; rfl)
  have HV := hik (show bdv s n f g (pk3 a2 a3 a4) (pk3 b2 b3 b4) = btK s (El.eqp (elF f g) n) (elF (pk3 a2 a3 a4) (pk3 b2 b3 b4)) 3 from rfl)
  have hpE := hik (PairE.of hp.out h3)
  have HBC := hik (fun (u v : Value) (W : World) (h : Hid (SyV W s a)) (h' : Hid (PairE W cx n (elF f g))) => boundT_any s a u v M cx n capx (elF f g) (elF (pk3 a2 a3 a4) (pk3 b2 b3 b4)) W h h' H2 HMq HRq hM5 hn5)
  rw [show (elF (pk3 a2 a3 a4) (pk3 b2 b3 b4) 0).v.1 = a2 from ((cA_el h4 (i := 0) (by omega)).1).symm, show (elF (pk3 a2 a3 a4) (pk3 b2 b3 b4) 0).v.2 = b2 from ((cA_el h4 (i := 0) (by omega)).2).symm, show (elF (pk3 a2 a3 a4) (pk3 b2 b3 b4) 1).v.1 = a3 from ((cA_el h4 (i := 1) (by omega)).1).symm, show (elF (pk3 a2 a3 a4) (pk3 b2 b3 b4) 1).v.2 = b3 from ((cA_el h4 (i := 1) (by omega)).2).symm, show (elF (pk3 a2 a3 a4) (pk3 b2 b3 b4) 2).v.1 = a4 from ((cA_el h4 (i := 2) (by omega)).1).symm, show (elF (pk3 a2 a3 a4) (pk3 b2 b3 b4) 2).v.2 = b4 from ((cA_el h4 (i := 2) (by omega)).2).symm] at HBC
  have H5 := hik h5
  have HQ := hik hq
  have h32 : 2 ^ M ≤ 32 := pow5 hM5
  clear hC h2 h3 h4 eq_ er hq hMM
  have KB := hik (((((Chg.refl nob w).alloc (.cells #[.int .i64 s.r, .int .i64 s.q, .int .i64 s.p, .slice a.cA s.nA a.pA, .slice a.cB s.nB a.pB, .slice a.cC s.nC a.pC] 40)).alloc (.cells #[.int .i64 a2, .int .i64 b2] 62)).alloc (.cells #[.int .i64 a3, .int .i64 b3] 62)).alloc (.cells #[.int .i64 a4, .int .i64 b4] 62))
  have x0 : World.cell? ((((w.alloc (.cells #[.int .i64 s.r, .int .i64 s.q, .int .i64 s.p, .slice a.cA s.nA a.pA, .slice a.cB s.nB a.pB, .slice a.cC s.nC a.pC] 40)).alloc (.cells #[.int .i64 a2, .int .i64 b2] 62)).alloc (.cells #[.int .i64 a3, .int .i64 b3] 62)).alloc (.cells #[.int .i64 a4, .int .i64 b4] 62)) ⟨w.heap.size, 0, none⟩ = some (.int .i64 s.r) := by go_simp
  have x1 : World.cell? ((((w.alloc (.cells #[.int .i64 s.r, .int .i64 s.q, .int .i64 s.p, .slice a.cA s.nA a.pA, .slice a.cB s.nB a.pB, .slice a.cC s.nC a.pC] 40)).alloc (.cells #[.int .i64 a2, .int .i64 b2] 62)).alloc (.cells #[.int .i64 a3, .int .i64 b3] 62)).alloc (.cells #[.int .i64 a4, .int .i64 b4] 62)) ⟨w.heap.size, 1, none⟩ = some (.int .i64 s.q) := by go_simp
  have x2 : World.cell? ((((w.alloc (.cells #[.int .i64 s.r, .int .i64 s.q, .int .i64 s.p, .slice a.cA s.nA a.pA, .slice a.cB s.nB a.pB, .slice a.cC s.nC a.pC] 40)).alloc (.cells #[.int .i64 a2, .int .i64 b2] 62)).alloc (.cells #[.int .i64 a3, .int .i64 b3] 62)).alloc (.cells #[.int .i64 a4, .int .i64 b4] 62)) ⟨w.heap.size, 2, none⟩ = some (.int .i64 s.p) := by go_simp
  have x3 : World.cell? ((((w.alloc (.cells #[.int .i64 s.r, .int .i64 s.q, .int .i64 s.p, .slice a.cA s.nA a.pA, .slice a.cB s.nB a.pB, .slice a.cC s.nC a.pC] 40)).alloc (.cells #[.int .i64 a2, .int .i64 b2] 62)).alloc (.cells #[.int .i64 a3, .int .i64 b3] 62)).alloc (.cells #[.int .i64 a4, .int .i64 b4] 62)) ⟨w.heap.size, 3, none⟩ = some (.slice a.cA s.nA a.pA) := by go_simp
  have x4 : World.cell? ((((w.alloc (.cells #[.int .i64 s.r, .int .i64 s.q, .int .i64 s.p, .slice a.cA s.nA a.pA, .slice a.cB s.nB a.pB, .slice a.cC s.nC a.pC] 40)).alloc (.cells #[.int .i64 a2, .int .i64 b2] 62)).alloc (.cells #[.int .i64 a3, .int .i64 b3] 62)).alloc (.cells #[.int .i64 a4, .int .i64 b4] 62)) ⟨w.heap.size, 4, none⟩ = some (.slice a.cB s.nB a.pB) := by go_simp
  have x5 : World.cell? ((((w.alloc (.cells #[.int .i64 s.r, .int .i64 s.q, .int .i64 s.p, .slice a.cA s.nA a.pA, .slice a.cB s.nB a.pB, .slice a.cC s.nC a.pC] 40)).alloc (.cells #[.int .i64 a2, .int .i64 b2] 62)).alloc (.cells #[.int .i64 a3, .int .i64 b3] 62)).alloc (.cells #[.int .i64 a4, .int .i64 b4] 62)) ⟨w.heap.size, 5, none⟩ = some (.slice a.cC s.nC a.pC) := by go_simp
  have p0 : World.cell? ((((w.alloc (.cells #[.int .i64 s.r, .int .i64 s.q, .int .i64 s.p, .slice a.cA s.nA a.pA, .slice a.cB s.nB a.pB, .slice a.cC s.nC a.pC] 40)).alloc (.cells #[.int .i64 a2, .int .i64 b2] 62)).alloc (.cells #[.int .i64 a3, .int .i64 b3] 62)).alloc (.cells #[.int .i64 a4, .int .i64 b4] 62)) ⟨w.heap.size + 1, 0, none⟩ = some (.int .i64 a2) := by go_simp
  have p1 : World.cell? ((((w.alloc (.cells #[.int .i64 s.r, .int .i64 s.q, .int .i64 s.p, .slice a.cA s.nA a.pA, .slice a.cB s.nB a.pB, .slice a.cC s.nC a.pC] 40)).alloc (.cells #[.int .i64 a2, .int .i64 b2] 62)).alloc (.cells #[.int .i64 a3, .int .i64 b3] 62)).alloc (.cells #[.int .i64 a4, .int .i64 b4] 62)) ⟨w.heap.size + 1, 1, none⟩ = some (.int .i64 b2) := by go_simp
  have q0 : World.cell? ((((w.alloc (.cells #[.int .i64 s.r, .int .i64 s.q, .int .i64 s.p, .slice a.cA s.nA a.pA, .slice a.cB s.nB a.pB, .slice a.cC s.nC a.pC] 40)).alloc (.cells #[.int .i64 a2, .int .i64 b2] 62)).alloc (.cells #[.int .i64 a3, .int .i64 b3] 62)).alloc (.cells #[.int .i64 a4, .int .i64 b4] 62)) ⟨w.heap.size + 2, 0, none⟩ = some (.int .i64 a3) := by go_simp
  have q1 : World.cell? ((((w.alloc (.cells #[.int .i64 s.r, .int .i64 s.q, .int .i64 s.p, .slice a.cA s.nA a.pA, .slice a.cB s.nB a.pB, .slice a.cC s.nC a.pC] 40)).alloc (.cells #[.int .i64 a2, .int .i64 b2] 62)).alloc (.cells #[.int .i64 a3, .int .i64 b3] 62)).alloc (.cells #[.int .i64 a4, .int .i64 b4] 62)) ⟨w.heap.size + 2, 1, none⟩ = some (.int .i64 b3) := by go_simp
  have r0 : World.cell? ((((w.alloc (.cells #[.int .i64 s.r, .int .i64 s.q, .int .i64 s.p, .slice a.cA s.nA a.pA, .slice a.cB s.nB a.pB, .slice a.cC s.nC a.pC] 40)).alloc (.cells #[.int .i64 a2, .int .i64 b2] 62)).alloc (.cells #[.int .i64 a3, .int .i64 b3] 62)).alloc (.cells #[.int .i64 a4, .int .i64 b4] 62)) ⟨w.heap.size + 3, 0, none⟩ = some (.int .i64 a4) := by go_simp
  have r1 : World.cell? ((((w.alloc (.cells #[.int .i64 s.r, .int .i64 s.q, .int .i64 s.p, .slice a.cA s.nA a.pA, .slice a.cB s.nB a.pB, .slice a.cC s.nC a.pC] 40)).alloc (.cells #[.int .i64 a2, .int .i64 b2] 62)).alloc (.cells #[.int .i64 a3, .int .i64 b3] 62)).alloc (.cells #[.int .i64 a4, .int .i64 b4] 62)) ⟨w.heap.size + 3, 1, none⟩ = some (.int .i64 b4) := by go_simp
  have BX := hik (cel6 x0 x1 x2 x3 x4 x5)
  go_enter Tryz.func25, Tryz.ntmps25
  go_upto_region 1 with fail
  have EX := hik (show (World.cell? (((((w.alloc (.cells #[.int .i64 s.r, .int .i64 s.q, .int .i64 s.p, .slice a.cA s.nA a.pA, .slice a.cB s.nB a.pB, .slice a.cC s.nC a.pC] 40)).alloc (.cells #[.int .i64 a2, .int .i64 b2] 62)).alloc (.cells #[.int .i64 a3, .int .i64 b3] 62)).alloc (.cells #[.int .i64 a4, .int .i64 b4] 62))) ⟨w.heap.size + 1, 0, none⟩ = some (.int .i64 a2) ∧ World.cell? (((((w.alloc (.cells #[.int .i64 s.r, .int .i64 s.q, .int .i64 s.p, .slice a.cA s.nA a.pA, .slice a.cB s.nB a.pB, .slice a.cC s.nC a.pC] 40)).alloc (.cells #[.int .i64 a2, .int .i64 b2] 62)).alloc (.cells #[.int .i64 a3, .int .i64 b3] 62)).alloc (.cells #[.int .i64 a4, .int .i64 b4] 62))) ⟨w.heap.size + 1, 1, none⟩ = some (.int .i64 b2) ∧ World.cell? (((((w.alloc (.cells #[.int .i64 s.r, .int .i64 s.q, .int .i64 s.p, .slice a.cA s.nA a.pA, .slice a.cB s.nB a.pB, .slice a.cC s.nC a.pC] 40)).alloc (.cells #[.int .i64 a2, .int .i64 b2] 62)).alloc (.cells #[.int .i64 a3, .int .i64 b3] 62)).alloc (.cells #[.int .i64 a4, .int .i64 b4] 62))) ⟨w.heap.size + 2, 0, none⟩ = some (.int .i64 a3) ∧ World.cell? (((((w.alloc (.cells #[.int .i64 s.r, .int .i64 s.q, .int .i64 s.p, .slice a.cA s.nA a.pA, .slice a.cB s.nB a.pB, .slice a.cC s.nC a.pC] 40)).alloc (.cells #[.int .i64 a2, .int .i64 b2] 62)).alloc (.cells #[.int .i64 a3, .int .i64 b3] 62)).alloc (.cells #[.int .i64 a4, .int .i64 b4] 62))) ⟨w.heap.size + 2, 1, none⟩ = some (.int .i64 b3) ∧ World.cell? (((((w.alloc (.cells #[.int .i64 s.r, .int .i64 s.q, .int .i64 s.p, .slice a.cA s.nA a.pA, .slice a.cB s.nB a.pB, .slice a.cC s.nC a.pC] 40)).alloc (.cells #[.int .i64 a2, .int .i64 b2] 62)).alloc (.cells #[.int .i64 a3, .int .i64 b3] 62)).alloc (.cells #[.int .i64 a4, .int .i64 b4] 62))) ⟨w.heap.size + 3, 0, none⟩ = some (.int .i64 a4) ∧ World.cell? (((((w.alloc (.cells #[.int .i64 s.r, .int .i64 s.q, .int .i64 s.p, .slice a.cA s.nA a.pA, .slice a.cB s.nB a.pB, .slice a.cC s.nC a.pC] 40)).alloc (.cells #[.int .i64 a2, .int .i64 b2] 62)).alloc (.cells #[.int .i64 a3, .int .i64 b3] 62)).alloc (.cells #[.int .i64 a4, .int .i64 b4] 62))) ⟨w.heap.size + 3, 1, none⟩ = some (.int .i64 b4)) from ⟨p0, p1, q0, q1, r0, r1⟩)
  clear x0 x1 x2 x3 x4 x5 p0 p1 q0 q1 r0 r1
  generalize ((((w.alloc (.cells #[.int .i64 s.r, .int .i64 s.q, .int .i64 s.p, .slice a.cA s.nA a.pA, .slice a.cB s.nB a.pB, .slice a.cC s.nC a.pC] 40)).alloc (.cells #[.int .i64 a2, .int .i64 b2] 62)).alloc (.cells #[.int .i64 a3, .int .i64 b3] 62)).alloc (.cells #[.int .i64 a4, .int .i64 b4] 62)) = B at KB BX EX ⊢
  obtain ⟨p0, p1, q0, q1, r0, r1⟩ := EX.out
  go_upto_region 4 with fail
  have KT := hik ((Chg.refl nob B).alloc (.cells #[.int .i64 a2, .int .i64 b2, .int .i64 a3, .int .i64 b3, .int .i64 a4, .int .i64 b4] 91))
  have PT := hik (rowNn B 6 #[.int .i64 a2, .int .i64 b2, .int .i64 a3, .int .i64 b3, .int .i64 a4, .int .i64 b4] 91 rfl)
  replace KB := hik (KB.out.trans KT.out)
  replace BX := hik (BX.out.keep KT.out)
  replace EX := hik (show World.cell? _ ⟨w.heap.size + 1, 0, none⟩ = some (.int .i64 a2) ∧ World.cell? _ ⟨w.heap.size + 1, 1, none⟩ = some (.int .i64 b2) ∧ World.cell? _ ⟨w.heap.size + 2, 0, none⟩ = some (.int .i64 a3) ∧ World.cell? _ ⟨w.heap.size + 2, 1, none⟩ = some (.int .i64 b3) ∧ World.cell? _ ⟨w.heap.size + 3, 0, none⟩ = some (.int .i64 a4) ∧ World.cell? _ ⟨w.heap.size + 3, 1, none⟩ = some (.int .i64 b4) from ⟨KT.out.see EX.out.1, KT.out.see EX.out.2.1, KT.out.see EX.out.2.2.1, KT.out.see EX.out.2.2.2.1, KT.out.see EX.out.2.2.2.2.1, KT.out.see EX.out.2.2.2.2.2⟩)
  clear p0 p1 q0 q1 r0 r1
  generalize hW0 : B.alloc (.cells #[.int .i64 a2, .int .i64 b2, .int .i64 a3, .int .i64 b3, .int .i64 a4, .int .i64 b4] 91) = W0 at KB BX EX PT ⊢
  clear hW0 KT
  have hgw := PT.out.lt
  generalize hGW : B.heap.size = gW at PT hgw ⊢
  clear hGW hgw
  obtain ⟨x0, x1, x2, x3, x4, x5⟩ := BX.out.six
  go_wp2_with fail
  refine (sysOK_any s a _ (hik (hv.out.keep KB.out)) hs).mono ?_
  rw [H2.out]
  rintro e W1 ⟨rfl, k1⟩
  replace KB := hik (KB.out.trans k1)
  replace BX := hik (BX.out.keep k1)
  replace EX := hik (show World.cell? _ ⟨w.heap.size + 1, 0, none⟩ = some (.int .i64 a2) ∧ World.cell? _ ⟨w.heap.size + 1, 1, none⟩ = some (.int .i64 b2) ∧ World.cell? _ ⟨w.heap.size + 2, 0, none⟩ = some (.int .i64 a3) ∧ World.cell? _ ⟨w.heap.size + 2, 1, none⟩ = some (.int .i64 b3) ∧ World.cell? _ ⟨w.heap.size + 3, 0, none⟩ = some (.int .i64 a4) ∧ World.cell? _ ⟨w.heap.size + 3, 1, none⟩ = some (.int .i64 b4) from ⟨k1.see EX.out.1, k1.see EX.out.2.1, k1.see EX.out.2.2.1, k1.see EX.out.2.2.2.1, k1.see EX.out.2.2.2.2.1, k1.see EX.out.2.2.2.2.2⟩)
  replace PT := hik (rowIs_keep PT.out k1)
  clear k1 x0 x1 x2 x3 x4 x5
  go_wp2_with fail
  refine (extsOK_any cx n capx f g _ (hik (PairV.keep hp.out KB.out)) hn).mono ?_
  rw [H3.out]
  rintro e W2 ⟨rfl, k2⟩
  replace KB := hik (KB.out.trans k2)
  replace BX := hik (BX.out.keep k2)
  replace EX := hik (show World.cell? _ ⟨w.heap.size + 1, 0, none⟩ = some (.int .i64 a2) ∧ World.cell? _ ⟨w.heap.size + 1, 1, none⟩ = some (.int .i64 b2) ∧ World.cell? _ ⟨w.heap.size + 2, 0, none⟩ = some (.int .i64 a3) ∧ World.cell? _ ⟨w.heap.size + 2, 1, none⟩ = some (.int .i64 b3) ∧ World.cell? _ ⟨w.heap.size + 3, 0, none⟩ = some (.int .i64 a4) ∧ World.cell? _ ⟨w.heap.size + 3, 1, none⟩ = some (.int .i64 b4) from ⟨k2.see EX.out.1, k2.see EX.out.2.1, k2.see EX.out.2.2.1, k2.see EX.out.2.2.2.1, k2.see EX.out.2.2.2.2.1, k2.see EX.out.2.2.2.2.2⟩)
  replace PT := hik (rowIs_keep PT.out k2)
  clear k2
  have hgl := PT.out.lt
  go_wp2_with fail
  refine (extsOK_any _ 3 3 (pk3 a2 a3 a4) (pk3 b2 b3 b4) _ (hik (pairs3r PT.out)) (by omega)).mono ?_
  rw [H4.out]
  rintro e W3 ⟨rfl, k3⟩
  replace KB := hik (KB.out.trans k3)
  replace BX := hik (BX.out.keep k3)
  replace EX := hik (show World.cell? _ ⟨w.heap.size + 1, 0, none⟩ = some (.int .i64 a2) ∧ World.cell? _ ⟨w.heap.size + 1, 1, none⟩ = some (.int .i64 b2) ∧ World.cell? _ ⟨w.heap.size + 2, 0, none⟩ = some (.int .i64 a3) ∧ World.cell? _ ⟨w.heap.size + 2, 1, none⟩ = some (.int .i64 b3) ∧ World.cell? _ ⟨w.heap.size + 3, 0, none⟩ = some (.int .i64 a4) ∧ World.cell? _ ⟨w.heap.size + 3, 1, none⟩ = some (.int .i64 b4) from ⟨k3.see EX.out.1, k3.see EX.out.2.1, k3.see EX.out.2.2.1, k3.see EX.out.2.2.2.1, k3.see EX.out.2.2.2.2.1, k3.see EX.out.2.2.2.2.2⟩)
  replace PT := hik (rowIs_keep PT.out k3)
  clear k3 hgl
  
  obtain ⟨x0, x1, x2, x3, x4, x5⟩ := BX.out.six
  rw [← H5.out] at x0
  have hnn : ((n : Int) != (n : Int)) = false := by simp
  rw [HQ.out] at x1
  have z0 := PT.out.cell (i := 0) (by omega)
  have z1 := PT.out.cell (i := 1) (by omega)
  have z2 := PT.out.cell (i := 2) (by omega)
  have z3 := PT.out.cell (i := 3) (by omega)
  have z4 := PT.out.cell (i := 4) (by omega)
  have z5 := PT.out.cell (i := 5) (by omega)
  simp only [Array.getD, List.size_toArray, List.length_cons, List.length_nil] at z0 z1 z2 z3 z4 z5
  simp at z0 z1 z2 z3 z4 z5
  go_wp2_with fail
  clear x0 x1 x2 x3 x4 x5 z0 z1 z2 z3 z4 z5 hnn
  refine (HBC.out _ _ _ (hik (hv.out.keep KB.out)) (hik (PairE.keep hpE.out KB.out))).mono ?_
  rintro e W6 ⟨b6, rfl, hb6, r6, k6⟩
  have R6 := hik r6
  have K6 := hik (KB.out.trans k6)
  have HB6 := hik (Nat.le_trans KB.out.size hb6)
  clear r6 k6 hb6
  go_wp2
  go_ret2
  exact TbC.some HC.out HN.out (Nat.le_refl _) (Int.le_trans (Int.ofNat_le.2 h32) (by decide)) ((RowE.own R6.out HB6.out).congr (fun i _ => by rw [HV.out]; exact ⟨rfl, rfl⟩)) K6.out

end Go.Proofs.YtkpohajmcngjcaaGreatDoor

namespace Go.Proofs.YtkpohajmcngjcaaGreatDoor
open Go.ChangeShapes Go.WideShapes Go.ChangeAt Go.RowKit
set_option linter.unusedVariables false
set_option maxRecDepth 100000
set_option linter.unusedSimpArgs false

theorem stc_ok9 {s : Sy} {r n g : Int} {P : Nat} {f : Nat → Int} {sk : Bool} {at' ct : Int} (h1 : sysb s = true) (h2 : stb r n g = true) (h3 : fds P f = true) (h4 : sk = true) (h5 : (P : Int) = s.p) (h6 : at' ≤ 3) (h7 : ct ≤ 3) (h8 : P ≤ 4096) : stc s r n g P f sk at' ct = 0 := by
  unfold stc stk
  rw [if_neg (by omega), if_neg (by rw [h1, h2, h3, h4]; simp), if_neg (by simpa using h5), if_neg (by unfold spb; simp; omega)]
theorem bdc_el {s : Sy} {n : Nat} {u v : Nat → Int} (p : Nat → El) (hs : sysb s = true) (hn : n ≤ 4096) (hr : (n : Int) = s.r) (ho : okP u v 3 = true) : bdc s n (cA p) (cB p) u v = 0 := by
  unfold bdc
  rw [if_neg (by omega), if_neg (by rw [hs, okP_el, ho]; simp), if_neg (by simpa using hr)]
theorem okP_pk3 (x y z : El) : okP (pk3 x.v.1 y.v.1 z.v.1) (pk3 x.v.2 y.v.2 z.v.2) 3 = true := okP_of _ _ _ (fun i hi => by
  rcases (show i = 0 ∨ i = 1 ∨ i = 2 by omega) with rfl | rfl | rfl
  · exact eok_el x
  · exact eok_el y
  · exact eok_el z)
/-- Three elements. -/
def v3E (x y z : El) (i : Nat) : El := if i = 0 then x else if i = 1 then y else if i = 2 then z else El.zr
theorem v3_A (x y z : El) : pk4 x.v.1 y.v.1 z.v.1 0 = cA (v3E x y z) := funext (fun i => by
  unfold pk4 cA v3E
  by_cases h0 : i = 0
  · rw [if_pos h0, if_pos h0]
  · rw [if_neg h0, if_neg h0]
    by_cases h1 : i = 1
    · rw [if_pos h1, if_pos h1]
    · rw [if_neg h1, if_neg h1]
      by_cases h2 : i = 2
      · rw [if_pos h2, if_pos h2]
      · rw [if_neg h2, if_neg h2]; rfl)
theorem v3_B (x y z : El) : pk4 x.v.2 y.v.2 z.v.2 0 = cB (v3E x y z) := funext (fun i => by
  unfold pk4 cB v3E
  by_cases h0 : i = 0
  · rw [if_pos h0, if_pos h0]
  · rw [if_neg h0, if_neg h0]
    by_cases h1 : i = 1
    · rw [if_pos h1, if_pos h1]
    · rw [if_neg h1, if_neg h1]
      by_cases h2 : i = 2
      · rw [if_pos h2, if_pos h2]
      · rw [if_neg h2, if_neg h2]; rfl)
theorem dot3_el (r : Nat → El) (x y z : El) : dtE r (v3E x y z) 3 = El.ad (El.ad (El.ml (r 0) x) (El.ml (r 1) y)) (El.ml (r 2) z) := by
  show El.ad (El.ad (El.ad El.zr (El.ml (r 0) x)) (El.ml (r 1) y)) (El.ml (r 2) z) = _
  rw [El.zr_ad]
theorem dotc_el (x y : Nat → El) : dc (cA x) (cB x) (cA y) (cB y) 3 3 = 0 := by
  unfold dc
  simp [okP_el]
theorem dotv_el (x y : Nat → El) : dv1 (cA x) (cB x) (cA y) (cB y) 3 3 = (dtE x y 3).v.1 ∧ dv2 (cA x) (cB x) (cA y) (cB y) 3 3 = (dtE x y 3).v.2 := by
  unfold dv1 dv2
  rw [dotc_el, ← dE_el]
  exact ⟨rfl, rfl⟩

theorem mac_el {n rx ry : Nat} {X : Nat → En} (p q : Nat → El) (hn : n ≤ 200) (h1 : 1 ≤ rx) (h5 : rx ≤ 5) (k1 : 1 ≤ ry) (k5 : ry ≤ 5) (he : elm (2 ^ rx) (2 ^ ry) n X = true) : mac n X rx (cA p) (cB p) ry (cA q) (cB q) = 0 := by
  unfold mac
  rw [if_neg (by omega), if_neg (by unfold lgb; rw [decide_eq_true (by omega), decide_eq_true (by omega)]; simp), if_neg (by rw [he, okP_el, okP_el]; simp)]
theorem mav_el {n rx ry : Nat} {X : Nat → En} (p q : Nat → El) (h : mac n X rx (cA p) (cB p) ry (cA q) (cB q) = 0) : mav n X rx (cA p) (cB p) ry (cA q) (cB q) = mte X (El.eqp p rx) (El.eqp q ry) n := by
  unfold mav
  rw [if_pos h, elF_el, elF_el]

theorem bytes_rowT {w : World} {c : Option Addr} {len : Nat} {z : Nat → Int} (h : RowV w c len (bb z)) (hz : isB z) : Bytes w c len := by
  intro i hi
  obtain ⟨xb, xo, e, l, hc⟩ := h i hi
  have := hz i
  exact ⟨xb, xo, z i, e, l, hc, this.1, by omega⟩

set_option maxHeartbeats 16000000 in
theorem fnStarts_walk (a0 : Option Addr) (len0 cap0 : Nat) (a1 : Option Addr) (len1 cap1 : Nat) (w : World) (HB0 : Hid (Bytes w a0 len0)) (HB1 : Hid (Bytes w a1 len1)) (hl0 : (len0 : Int) ≤ 9223372036854775807) (hl1 : (len1 : Int) ≤ 9223372036854775807) (HT : Hid (Tabs w)) :
    Calls Tryz.prog 4 #[.slice a0 len0 cap0, .slice a1 len1 cap1] w fun e w' => e = .returned (.bool true) ∧ Below w.heap.size w w' := by
  by_cases hm : 1048576 < len0
  · have hm' : 1048576 < (len0 : Int) := by omega
    go_enter Tryz.func4, Tryz.ntmps4
    go_wp2_with fail
    go_ret
    exact ⟨rfl, Below.refl _ _⟩
  by_cases hn : 1048576 < len1
  · have hm' : ¬ 1048576 < (len0 : Int) := by omega
    have hn' : 1048576 < (len1 : Int) := by omega
    go_enter Tryz.func4, Tryz.ntmps4
    go_wp2_with fail
    go_ret
    exact ⟨rfl, Below.refl _ _⟩
  have hm' : ¬ 1048576 < (len0 : Int) := by omega
  have hn' : ¬ 1048576 < (len1 : Int) := by omega
  go_enter Tryz.func4, Tryz.ntmps4
  go_wp2_with fail
  refine (sysDrawn_any a0 len0 cap0 _ HB0.out hl0).mono ?_
  rintro e W1 ⟨⟨r, q, p, nA, nB, nC, XA, XB, XC⟩, y, rfl, hv, hok, hr, hq, k1⟩
  obtain ⟨rr, m, er, eq, r1, r5, m1, m4, p0, p1, eA, eB, eC⟩ := sysb_parts hok
  dsimp only at er eq p0 p1 eA eB eC hr hq
  obtain rfl : q = (m : Int) + 1 := by rw [eq]; simp
  subst er
  obtain ⟨P, rfl⟩ : ∃ P : Nat, p = (P : Int) := ⟨p.toNat, by omega⟩
  clear eq
  have V := hik hv
  have G := hik k1
  clear hv k1
  obtain ⟨N, hN⟩ : ∃ N, N = 2 ^ (m + 1) := ⟨_, rfl⟩
  obtain ⟨R, hR⟩ : ∃ R, R = 2 ^ rr := ⟨_, rfl⟩
  have bM : 4 ≤ N ∧ N ≤ 8 := by
    obtain rfl | rfl : m = 1 ∨ m = 2 := by omega
    all_goals (subst hN; decide)
  have bR : 2 ≤ R ∧ R ≤ 4 := by
    obtain rfl | rfl : rr = 1 ∨ rr = 2 := by omega
    all_goals (subst hR; decide)
  have cN : (2 : Int) ^ (m + 1) = (N : Int) := by rw [hN]; exact (pow_cast (m + 1)).symm
  have cR : (2 : Int) ^ rr = (R : Int) := by rw [hR]; exact (pow_cast rr).symm
  have wN : wrap64 (N : Int) = (N : Int) := by rw [← cN]; exact wp2 (m + 1) (by omega)
  have wR : wrap64 (R : Int) = (R : Int) := by rw [← cR]; exact wp2 rr (by omega)
  have HN := hik hN
  have HR := hik hR
  have WN := hik wN
  have WR := hik wR
  clear hN hR wN wR
  have HOK := hik hok
  have hsm : Sy.small (⟨(rr : Int), (m : Int) + 1, (P : Int), nA, nB, nC, XA, XB, XC⟩ : Sy) := ⟨by show nA ≤ _; have := (elm_parts eA).1; omega, by show nB ≤ _; have := (elm_parts eB).1; omega, by show nC ≤ _; have := (elm_parts eC).1; omega⟩
  have hnA : nA ≤ 200 := (elm_parts eA).1
  have hnB : nB ≤ 200 := (elm_parts eB).1
  have EA := hik eA
  have EB := hik eB
  have EC := hik eC
  have hnC : nC ≤ 200 := (elm_parts eC).1
  clear hok eA eB eC
  have tq9 : ((m : Int) + 1).toNat = m + 1 := by omega
  go_wp2_with fail
  have BX := hik (cel6 (w := W1.alloc (.cells #[.int .i64 (rr : Int), .int .i64 ((m : Int) + 1), .int .i64 (P : Int), .slice y.cA nA y.pA, .slice y.cB nB y.pB, .slice y.cC nC y.pC] 40)) (g := W1.heap.size) (v0 := .int .i64 (rr : Int)) (v1 := .int .i64 ((m : Int) + 1)) (v2 := .int .i64 (P : Int)) (v3 := .slice y.cA nA y.pA) (v4 := .slice y.cB nB y.pB) (v5 := .slice y.cC nC y.pC) (by go_simp) (by go_simp) (by go_simp) (by go_simp) (by go_simp) (by go_simp))
  replace V := hik (V.out.keep ((Chg.refl nob W1).alloc (.cells #[.int .i64 (rr : Int), .int .i64 ((m : Int) + 1), .int .i64 (P : Int), .slice y.cA nA y.pA, .slice y.cB nB y.pB, .slice y.cC nC y.pC] 40)))
  replace G := hik (G.out.alloc (.cells #[.int .i64 (rr : Int), .int .i64 ((m : Int) + 1), .int .i64 (P : Int), .slice y.cA nA y.pA, .slice y.cB nB y.pB, .slice y.cC nC y.pC] 40))
  generalize hE : W1.alloc (.cells #[.int .i64 (rr : Int), .int .i64 ((m : Int) + 1), .int .i64 (P : Int), .slice y.cA nA y.pA, .slice y.cB nB y.pB, .slice y.cC nC y.pC] 40) = W2 at BX V G ⊢
  generalize hg5 : W1.heap.size = g5 at BX ⊢
  clear hE hg5

  refine (settingOf_any a1 len1 cap1 _ (HB1.out.below G.out.belowAll) hl1).mono ?_
  rintro e W3 ⟨sr, sn, sg, rfl, hst, kk⟩
  have HST := hik hst
  clear hst
  have KX := hik (kk.alloc (.cells #[.int .i64 sr, .int .i64 sn, .int .i64 sg] 42))
  replace V := hik (V.out.keep KX.out)
  replace G := hik (G.out.trans KX.out)
  replace BX := hik (BX.out.keep KX.out)
  have BZ := hik (rowN_new W3 3 #[.int .i64 sr, .int .i64 sn, .int .i64 sg] 42 rfl)
  clear kk KX
  obtain ⟨x0, x1, x2, x3, x4, x5⟩ := BX.out.six
  go_wp2_with fail
  generalize hgz : W3.heap.size = gz at BZ ⊢
  generalize hE : W3.alloc (.cells #[.int .i64 sr, .int .i64 sn, .int .i64 sg] 42) = UBZ at V G BX BZ x0 x1 x2 x3 x4 x5 ⊢
  clear hgz hE
  clear x0 x1 x2 x3 x4 x5
  refine (numbersOf_any a1 len1 cap1 P _ (HB1.out.below G.out.belowAll) hl1 (by omega)).mono ?_
  rintro e W4 ⟨v, f, rfl, hi, hf, kk⟩
  obtain ⟨cf, capf, rfl, _, _, hrow⟩ := hi.row
  have FB := hik hf
  replace V := hik (V.out.keep kk)
  replace G := hik (G.out.trans kk)
  replace BX := hik (BX.out.keep kk)
  replace BZ := hik (rowIs_keep BZ.out kk)
  have F3 := hik hrow
  clear hi hf hrow kk
  go_wp2_with fail
  refine (sourceOf_any a0 len0 cap0 _ (HB0.out.below G.out.belowAll) hl0).mono ?_
  rintro e W5 ⟨cs, ls, ps, fs, gs, at', st, ct, rfl, hos, hsk, hl5, ha3, hc3, kk⟩
  have HSK := hik hsk
  have hst32 := (sokb_st hsk).2
  have PS := hik (PairV.keep hos.pairs ((Chg.refl nob _).alloc (.cells #[.slice cs ls ps, .int .i64 at', .string st, .int .i64 ct] 35)))
  clear hsk hos
  have KX := hik (kk.alloc (.cells #[.slice cs ls ps, .int .i64 at', .string st, .int .i64 ct] 35))
  replace V := hik (V.out.keep KX.out)
  replace G := hik (G.out.trans KX.out)
  replace BX := hik (BX.out.keep KX.out)
  replace BZ := hik (rowIs_keep BZ.out KX.out)
  replace F3 := hik (RowV.keep F3.out KX.out)
  have BS := hik (rowN_new W5 4 #[.slice cs ls ps, .int .i64 at', .string st, .int .i64 ct] 35 rfl)
  clear kk KX
  have hcd : stc (⟨(rr : Int), (m : Int) + 1, (P : Int), nA, nB, nC, XA, XB, XC⟩ : Sy) sr sn sg P f (sokb fs gs ls at' st ct) at' ct = 0 := stc_ok9 HOK.out HST.out (fds_of9 FB.out) HSK.out rfl ha3 hc3 (by omega)
  have HCD := hik hcd
  clear hcd
  obtain ⟨x0, x1, x2, x3, x4, x5⟩ := BX.out.six
  have z0 : (W5.alloc (.cells #[.slice cs ls ps, .int .i64 at', .string st, .int .i64 ct] 35)).cell? ⟨gz, 0, none⟩ = some (.int .i64 sr) := BZ.out.cell (i := 0) (by omega)
  have z1 : (W5.alloc (.cells #[.slice cs ls ps, .int .i64 at', .string st, .int .i64 ct] 35)).cell? ⟨gz, 1, none⟩ = some (.int .i64 sn) := BZ.out.cell (i := 1) (by omega)
  have z2 : (W5.alloc (.cells #[.slice cs ls ps, .int .i64 at', .string st, .int .i64 ct] 35)).cell? ⟨gz, 2, none⟩ = some (.int .i64 sg) := BZ.out.cell (i := 2) (by omega)
  go_wp2_with fail
  generalize hgs9 : W5.heap.size = gs9 at BS ⊢
  generalize hE : W5.alloc (.cells #[.slice cs ls ps, .int .i64 at', .string st, .int .i64 ct] 35) = UBS at V G BX BZ F3 BS PS x0 x1 x2 x3 x4 x5 z0 z1 z2 ⊢
  clear hgs9 hE
  clear x0 x1 x2 x3 x4 x5
  clear z0 z1 z2
  refine (start_any (⟨(rr : Int), (m : Int) + 1, (P : Int), nA, nB, nC, XA, XB, XC⟩ : Sy) y sr sn sg cf P capf f cs ls ps at' st ct fs gs _ V hsm F3 (by omega) PS (by omega) (by omega) (hik (HT.out.keep G.out))).mono ?_
  rintro e W6 h9
  obtain ⟨ca, capca, rfl, oo, kk⟩ := h9.1 HCD.out
  clear h9
  generalize hSX : abS st (stX (⟨(rr : Int), (m : Int) + 1, (P : Int), nA, nB, nC, XA, XB, XC⟩ : Sy) sr sn sg P f) = SX
  have HSX := hik hSX
  clear hSX
  have PBA := hik (PairV.keep oo.pairs ((Chg.refl nob _).alloc (.cells #[.slice ca ls capca, .int .i64 at', .string SX, .int .i64 0] 35)))
  clear oo
  have KX := hik (kk.alloc (.cells #[.slice ca ls capca, .int .i64 at', .string SX, .int .i64 0] 35))
  replace V := hik (V.out.keep KX.out)
  replace G := hik (G.out.trans KX.out)
  replace BX := hik (BX.out.keep KX.out)
  replace BZ := hik (rowIs_keep BZ.out KX.out)
  replace F3 := hik (RowV.keep F3.out KX.out)
  replace BS := hik (rowIs_keep BS.out KX.out)
  replace PS := hik (PairV.keep PS.out KX.out)
  have BA := hik (rowN_new W6 4 #[.slice ca ls capca, .int .i64 at', .string SX, .int .i64 0] 35 rfl)
  clear kk KX
  obtain ⟨x0, x1, x2, x3, x4, x5⟩ := BX.out.six
  have z0 : (W6.alloc (.cells #[.slice ca ls capca, .int .i64 at', .string SX, .int .i64 0] 35)).cell? ⟨gz, 0, none⟩ = some (.int .i64 sr) := BZ.out.cell (i := 0) (by omega)
  have z1 : (W6.alloc (.cells #[.slice ca ls capca, .int .i64 at', .string SX, .int .i64 0] 35)).cell? ⟨gz, 1, none⟩ = some (.int .i64 sn) := BZ.out.cell (i := 1) (by omega)
  have z2 : (W6.alloc (.cells #[.slice ca ls capca, .int .i64 at', .string SX, .int .i64 0] 35)).cell? ⟨gz, 2, none⟩ = some (.int .i64 sg) := BZ.out.cell (i := 2) (by omega)
  have s0 : (W6.alloc (.cells #[.slice ca ls capca, .int .i64 at', .string SX, .int .i64 0] 35)).cell? ⟨gs9, 0, none⟩ = some (.slice cs ls ps) := BS.out.cell (i := 0) (by omega)
  have s1 : (W6.alloc (.cells #[.slice ca ls capca, .int .i64 at', .string SX, .int .i64 0] 35)).cell? ⟨gs9, 1, none⟩ = some (.int .i64 at') := BS.out.cell (i := 1) (by omega)
  have s2 : (W6.alloc (.cells #[.slice ca ls capca, .int .i64 at', .string SX, .int .i64 0] 35)).cell? ⟨gs9, 2, none⟩ = some (.string st) := BS.out.cell (i := 2) (by omega)
  have s3 : (W6.alloc (.cells #[.slice ca ls capca, .int .i64 at', .string SX, .int .i64 0] 35)).cell? ⟨gs9, 3, none⟩ = some (.int .i64 ct) := BS.out.cell (i := 3) (by omega)
  go_wp2_with fail
  generalize hga : W6.heap.size = ga at BA ⊢
  generalize hE : W6.alloc (.cells #[.slice ca ls capca, .int .i64 at', .string SX, .int .i64 0] 35) = UBA at V G BX BZ F3 BS PS BA PBA x0 x1 x2 x3 x4 x5 z0 z1 z2 s0 s1 s2 s3 ⊢
  clear hga hE
  clear x0 x1 x2 x3 x4 x5
  clear z0 z1 z2
  clear s0 s1 s2 s3
  refine (sStart_any (⟨(rr : Int), (m : Int) + 1, (P : Int), nA, nB, nC, XA, XB, XC⟩ : Sy) y sr sn sg cf P capf f cs ls ps at' st ct fs gs _ V hsm F3 (by omega) PS (by omega) (by omega)).mono ?_
  rintro e W7 h9
  obtain ⟨cw, capcw, rfl, oo, kk⟩ := h9.1 HCD.out
  clear h9
  rw [show abS st (stX (⟨(rr : Int), (m : Int) + 1, (P : Int), nA, nB, nC, XA, XB, XC⟩ : Sy) sr sn sg P f) = SX from HSX.out]
  have PBW := hik (PairV.keep oo.pairs ((Chg.refl nob _).alloc (.cells #[.slice cw ls capcw, .int .i64 at', .string SX, .int .i64 0] 35)))
  clear oo
  have KX := hik (kk.alloc (.cells #[.slice cw ls capcw, .int .i64 at', .string SX, .int .i64 0] 35))
  replace V := hik (V.out.keep KX.out)
  replace G := hik (G.out.trans KX.out)
  replace BX := hik (BX.out.keep KX.out)
  replace BZ := hik (rowIs_keep BZ.out KX.out)
  replace F3 := hik (RowV.keep F3.out KX.out)
  replace BS := hik (rowIs_keep BS.out KX.out)
  replace PS := hik (PairV.keep PS.out KX.out)
  replace BA := hik (rowIs_keep BA.out KX.out)
  replace PBA := hik (PairV.keep PBA.out KX.out)
  have BW := hik (rowN_new W7 4 #[.slice cw ls capcw, .int .i64 at', .string SX, .int .i64 0] 35 rfl)
  clear kk KX
  obtain ⟨x0, x1, x2, x3, x4, x5⟩ := BX.out.six
  go_wp2_with fail
  generalize hgw : W7.heap.size = gw at BW ⊢
  generalize hE : W7.alloc (.cells #[.slice cw ls capcw, .int .i64 at', .string SX, .int .i64 0] 35) = UBW at V G BX BZ F3 BS PS BA PBA BW PBW x0 x1 x2 x3 x4 x5 ⊢
  clear hgw hE
  clear x0 x1 x2 x3 x4 x5
  clear BZ BS PS F3 HST FB HSK HCD HSX
  refine (extsOf_any a1 len1 cap1 rr _ (HB1.out.below G.out.belowAll) hl1 (by omega)).mono ?_
  rintro e W8 ⟨f4, g4, cPx, capx, rfl, hP4, ho4, kk⟩
  replace V := hik (V.out.keep kk)
  replace G := hik (G.out.trans kk)
  replace BX := hik (BX.out.keep kk)
  replace BA := hik (rowIs_keep BA.out kk)
  replace PBA := hik (PairV.keep PBA.out kk)
  replace BW := hik (rowIs_keep BW.out kk)
  replace PBW := hik (PairV.keep PBW.out kk)
  have Px := hik (PairE.of hP4.pairs ho4)
  generalize elF f4 g4 = px at Px
  clear hP4 ho4 kk
  have HXE := hik (show ∀ W, Bytes W a0 len0 → Calls Tryz.prog 24 #[.slice a0 len0 cap0, .int .i64 ((m : Int) + 1)] W fun e w' => NewXs (m + 1) W e w' from fun W h => by
    have q := extsOf_any a0 len0 cap0 (m + 1) W h hl0 (by omega)
    rw [show ((m + 1 : Nat) : Int) = (m : Int) + 1 by omega] at q
    exact q)
  obtain ⟨x0, x1, x2, x3, x4, x5⟩ := BX.out.six
  go_wp2_with fail
  clear x0 x1 x2 x3 x4 x5
  refine (HXE.out _ (HB0.out.below G.out.belowAll)).mono ?_
  rintro e W9 ⟨f5, g5', cPy, capy, rfl, hP4, ho4, kk⟩
  replace V := hik (V.out.keep kk)
  replace G := hik (G.out.trans kk)
  replace BX := hik (BX.out.keep kk)
  replace BA := hik (rowIs_keep BA.out kk)
  replace PBA := hik (PairV.keep PBA.out kk)
  replace BW := hik (rowIs_keep BW.out kk)
  replace PBW := hik (PairV.keep PBW.out kk)
  replace Px := hik (PairE.keep Px.out kk)
  have Py := hik (PairE.of hP4.pairs ho4)
  generalize elF f5 g5' = py at Py
  clear hP4 ho4 kk HXE
  have K3 := hik ((Chg.refl nob W9).alloc (.cells #[.int .u8 3] 5))
  replace V := hik (V.out.keep K3.out)
  replace G := hik (G.out.trans K3.out)
  replace BX := hik (BX.out.keep K3.out)
  replace BA := hik (rowIs_keep BA.out K3.out)
  replace PBA := hik (PairV.keep PBA.out K3.out)
  replace BW := hik (rowIs_keep BW.out K3.out)
  replace PBW := hik (PairV.keep PBW.out K3.out)
  replace Px := hik (PairE.keep Px.out K3.out)
  replace Py := hik (PairE.keep Py.out K3.out)
  have hb3 := (HB1.out.below G.out.belowAll)
  have HB3 := hik hb3
  clear hb3 K3
  go_wp2_with (at_builtin; refine wp_appN _ rfl (.tmp 70) (.tmp 71) rfl _ rfl 3 (by omega) (by omega) (by go_simp) a1 len1 cap1 rfl HB3.out (by omega) ?_; intro c9 cap9 W9 hb9 kb9)
  have kk := chg_of_below kb9
  have HB9 := hik hb9
  clear hb9 kb9 HB3
  replace V := hik (V.out.keep kk)
  replace G := hik (G.out.trans kk)
  replace BX := hik (BX.out.keep kk)
  replace BA := hik (rowIs_keep BA.out kk)
  replace PBA := hik (PairV.keep PBA.out kk)
  replace BW := hik (rowIs_keep BW.out kk)
  replace PBW := hik (PairV.keep PBW.out kk)
  replace Px := hik (PairE.keep Px.out kk)
  replace Py := hik (PairE.keep Py.out kk)
  clear kk
  refine (extsOf_any c9 (1 + len1) cap9 3 _ HB9.out (by omega) (by omega)).mono ?_
  rintro e Wr ⟨f6, g6, cr, capr, rfl, hP4, ho4, kk⟩
  replace V := hik (V.out.keep kk)
  replace G := hik (G.out.trans kk)
  replace BX := hik (BX.out.keep kk)
  replace BA := hik (rowIs_keep BA.out kk)
  replace PBA := hik (PairV.keep PBA.out kk)
  replace BW := hik (rowIs_keep BW.out kk)
  replace PBW := hik (PairV.keep PBW.out kk)
  replace Px := hik (PairE.keep Px.out kk)
  replace Py := hik (PairE.keep Py.out kk)
  have Pr := hik (PairE.of hP4.pairs ho4)
  generalize elF f6 g6 = rE at Pr
  clear hP4 ho4 kk HB9
  obtain ⟨rb, ro, ec, _⟩ := Pr.out.at_ (i := 0) (by omega)
  subst ec
  have q0 : Wr.cell? ⟨rb, ro, none⟩ = some (.int .i64 (rE 0).v.1) := PairE.c0 Pr.out (i := 0) (by omega)
  have q1 : Wr.cell? ⟨rb, ro + 1, none⟩ = some (.int .i64 (rE 0).v.2) := PairE.c1 Pr.out (i := 0) (by omega)
  have q2 : Wr.cell? ⟨rb, ro + 2, none⟩ = some (.int .i64 (rE 1).v.1) := PairE.c0 Pr.out (i := 1) (by omega)
  have q3 : Wr.cell? ⟨rb, ro + 3, none⟩ = some (.int .i64 (rE 1).v.2) := PairE.c1 Pr.out (i := 1) (by omega)
  have q4 : Wr.cell? ⟨rb, ro + 4, none⟩ = some (.int .i64 (rE 2).v.1) := PairE.c0 Pr.out (i := 2) (by omega)
  have q5 : Wr.cell? ⟨rb, ro + 5, none⟩ = some (.int .i64 (rE 2).v.2) := PairE.c1 Pr.out (i := 2) (by omega)
  obtain ⟨x0, x1, x2, x3, x4, x5⟩ := BX.out.six
  go_wp2
  have hbc : bdc (⟨(rr : Int), (m : Int) + 1, (P : Int), nA, nB, nC, XA, XB, XC⟩ : Sy) rr (cA px) (cB px) (pk3 (rE 0).v.1 (rE 1).v.1 (rE 2).v.1) (pk3 (rE 0).v.2 (rE 1).v.2 (rE 2).v.2) = 0 := bdc_el px HOK.out (by omega) rfl (okP_pk3 _ _ _)
  have hbn : bdn (⟨(rr : Int), (m : Int) + 1, (P : Int), nA, nB, nC, XA, XB, XC⟩ : Sy) rr (cA px) (cB px) (pk3 (rE 0).v.1 (rE 1).v.1 (rE 2).v.1) (pk3 (rE 0).v.2 (rE 1).v.2 (rE 2).v.2) = N := by unfold bdn; rw [if_pos hbc]; dsimp only; rw [tq9, ← HN.out]
  obtain ⟨TB, hTB⟩ : ∃ TB, TB = bdv (⟨(rr : Int), (m : Int) + 1, (P : Int), nA, nB, nC, XA, XB, XC⟩ : Sy) rr (cA px) (cB px) (pk3 (rE 0).v.1 (rE 1).v.1 (rE 2).v.1) (pk3 (rE 0).v.2 (rE 1).v.2 (rE 2).v.2) := ⟨_, rfl⟩
  have HTB := hik hTB
  clear hTB
  have KW := hik ((Chg.refl nob Wr).drew1)
  have SA := hik (fun (WW : World) (kW : Chg nob Wr WW) => (show (WW.cell? ⟨g5, 0, none⟩ = some (.int .i64 (rr : Int)) ∧ WW.cell? ⟨g5, 1, none⟩ = some (.int .i64 ((m : Int) + 1)) ∧ WW.cell? ⟨g5, 2, none⟩ = some (.int .i64 (P : Int)) ∧ WW.cell? ⟨g5, 3, none⟩ = some (.slice y.cA nA y.pA) ∧ WW.cell? ⟨g5, 4, none⟩ = some (.slice y.cB nB y.pB) ∧ WW.cell? ⟨g5, 5, none⟩ = some (.slice y.cC nC y.pC) ∧ WW.cell? ⟨rb, ro, none⟩ = some (.int .i64 (rE 0).v.1) ∧ WW.cell? ⟨rb, ro + 1, none⟩ = some (.int .i64 (rE 0).v.2) ∧ WW.cell? ⟨rb, ro + 2, none⟩ = some (.int .i64 (rE 1).v.1) ∧ WW.cell? ⟨rb, ro + 3, none⟩ = some (.int .i64 (rE 1).v.2) ∧ WW.cell? ⟨rb, ro + 4, none⟩ = some (.int .i64 (rE 2).v.1) ∧ WW.cell? ⟨rb, ro + 5, none⟩ = some (.int .i64 (rE 2).v.2)) from ⟨kW.see x0, kW.see x1, kW.see x2, kW.see x3, kW.see x4, kW.see x5, kW.see q0, kW.see q1, kW.see q2, kW.see q3, kW.see q4, kW.see q5⟩))
  refine wp_region_held_drew (S := fun w' => w'.cell? ⟨g5, 0, none⟩ = some (.int .i64 (rr : Int)) ∧ w'.cell? ⟨g5, 1, none⟩ = some (.int .i64 ((m : Int) + 1)) ∧ w'.cell? ⟨g5, 2, none⟩ = some (.int .i64 (P : Int)) ∧ w'.cell? ⟨g5, 3, none⟩ = some (.slice y.cA nA y.pA) ∧ w'.cell? ⟨g5, 4, none⟩ = some (.slice y.cB nB y.pB) ∧ w'.cell? ⟨g5, 5, none⟩ = some (.slice y.cC nC y.pC) ∧ w'.cell? ⟨rb, ro, none⟩ = some (.int .i64 (rE 0).v.1) ∧ w'.cell? ⟨rb, ro + 1, none⟩ = some (.int .i64 (rE 0).v.2) ∧ w'.cell? ⟨rb, ro + 2, none⟩ = some (.int .i64 (rE 1).v.1) ∧ w'.cell? ⟨rb, ro + 3, none⟩ = some (.int .i64 (rE 1).v.2) ∧ w'.cell? ⟨rb, ro + 4, none⟩ = some (.int .i64 (rE 2).v.1) ∧ w'.cell? ⟨rb, ro + 5, none⟩ = some (.int .i64 (rE 2).v.2)) (by kernel_rfl) ⟨x0, x1, x2, x3, x4, x5, q0, q1, q2, q3, q4, q5⟩ (fun hHeld => ?_)
  refine wpAnyH_take (i := 0) (v := ?_) rfl (by kernel_rfl) (by kernel_rfl) (by kernel_rfl) (fun _ _ _ h => h) (Or.inl ⟨by rfl, ?_⟩) (by assumption) ?_
  rotate_left 1
  · (intro w' hSw; (try dsimp only at hSw); go_simp; try with_reducible rfl)
  try simp only [Act.put, List.setIfInBounds_toArray, List.set_cons_zero, List.set_cons_succ, List.getElem_toArray, List.getElem_cons_zero, List.getElem_cons_succ]
  refine wpAnyH_take (i := 1) (v := ?_) rfl (by kernel_rfl) (by kernel_rfl) (by kernel_rfl) (fun _ _ _ h => h) (Or.inl ⟨by rfl, ?_⟩) (by assumption) ?_
  rotate_left 1
  · (intro w' hSw; (try dsimp only at hSw); go_simp; try with_reducible rfl)
  try simp only [Act.put, List.setIfInBounds_toArray, List.set_cons_zero, List.set_cons_succ, List.getElem_toArray, List.getElem_cons_zero, List.getElem_cons_succ]
  refine wpAnyH_take (i := 2) (v := ?_) rfl (by kernel_rfl) (by kernel_rfl) (by kernel_rfl) (fun _ _ _ h => h) (Or.inl ⟨by rfl, ?_⟩) (by assumption) ?_
  rotate_left 1
  · (intro w' hSw; (try dsimp only at hSw); go_simp; try with_reducible rfl)
  try simp only [Act.put, List.setIfInBounds_toArray, List.set_cons_zero, List.set_cons_succ, List.getElem_toArray, List.getElem_cons_zero, List.getElem_cons_succ]
  refine wpAnyH_take (i := 3) (v := ?_) rfl (by kernel_rfl) (by kernel_rfl) (by kernel_rfl) (fun _ _ _ h => h) (Or.inl ⟨by rfl, ?_⟩) (by assumption) ?_
  rotate_left 1
  · (intro w' hSw; (try dsimp only at hSw); go_simp; try with_reducible rfl)
  try simp only [Act.put, List.setIfInBounds_toArray, List.set_cons_zero, List.set_cons_succ, List.getElem_toArray, List.getElem_cons_zero, List.getElem_cons_succ]
  refine wpAnyH_take (i := 4) (v := ?_) rfl (by kernel_rfl) (by kernel_rfl) (by kernel_rfl) (fun _ _ _ h => h) (Or.inl ⟨by rfl, ?_⟩) (by assumption) ?_
  rotate_left 1
  · (intro w' hSw; (try dsimp only at hSw); go_simp; try with_reducible rfl)
  try simp only [Act.put, List.setIfInBounds_toArray, List.set_cons_zero, List.set_cons_succ, List.getElem_toArray, List.getElem_cons_zero, List.getElem_cons_succ]
  refine wpAnyH_take (i := 5) (v := ?_) rfl (by kernel_rfl) (by kernel_rfl) (by kernel_rfl) (fun _ _ _ h => h) (Or.inl ⟨by rfl, ?_⟩) (by assumption) ?_
  rotate_left 1
  · (intro w' hSw; (try dsimp only at hSw); go_simp; try with_reducible rfl)
  try simp only [Act.put, List.setIfInBounds_toArray, List.set_cons_zero, List.set_cons_succ, List.getElem_toArray, List.getElem_cons_zero, List.getElem_cons_succ]
  refine wpAnyH_take (i := 6) (v := ?_) rfl (by kernel_rfl) (by kernel_rfl) (by kernel_rfl) (fun _ _ _ h => h) (Or.inl ⟨by rfl, ?_⟩) (by assumption) ?_
  rotate_left 1
  · (intro w' hSw; (try dsimp only at hSw); go_simp; try with_reducible rfl)
  try simp only [Act.put, List.setIfInBounds_toArray, List.set_cons_zero, List.set_cons_succ, List.getElem_toArray, List.getElem_cons_zero, List.getElem_cons_succ]
  refine wpAnyH_take (i := 7) (v := ?_) rfl (by kernel_rfl) (by kernel_rfl) (by kernel_rfl) (fun _ _ _ h => h) (Or.inl ⟨by rfl, ?_⟩) (by assumption) ?_
  rotate_left 1
  · (intro w' hSw; (try dsimp only at hSw); go_simp; try with_reducible rfl)
  try simp only [Act.put, List.setIfInBounds_toArray, List.set_cons_zero, List.set_cons_succ, List.getElem_toArray, List.getElem_cons_zero, List.getElem_cons_succ]
  refine wpAnyH_take (i := 8) (v := ?_) rfl (by kernel_rfl) (by kernel_rfl) (by kernel_rfl) (fun _ _ _ h => h) (Or.inl ⟨by rfl, ?_⟩) (by assumption) ?_
  rotate_left 1
  · (intro w' hSw; (try dsimp only at hSw); go_simp; try with_reducible rfl)
  try simp only [Act.put, List.setIfInBounds_toArray, List.set_cons_zero, List.set_cons_succ, List.getElem_toArray, List.getElem_cons_zero, List.getElem_cons_succ]
  refine wpAnyH_take (i := 9) (v := ?_) rfl (by kernel_rfl) (by kernel_rfl) (by kernel_rfl) (fun _ _ _ h => h) (Or.inl ⟨by rfl, ?_⟩) (by assumption) ?_
  rotate_left 1
  · (intro w' hSw; (try dsimp only at hSw); go_simp; try with_reducible rfl)
  try simp only [Act.put, List.setIfInBounds_toArray, List.set_cons_zero, List.set_cons_succ, List.getElem_toArray, List.getElem_cons_zero, List.getElem_cons_succ]
  refine wpAnyH_take (i := 10) (v := ?_) rfl (by kernel_rfl) (by kernel_rfl) (by kernel_rfl) (fun _ _ _ h => h) (Or.inl ⟨by rfl, ?_⟩) (by assumption) ?_
  rotate_left 1
  · (intro w' hSw; (try dsimp only at hSw); go_simp; try with_reducible rfl)
  try simp only [Act.put, List.setIfInBounds_toArray, List.set_cons_zero, List.set_cons_succ, List.getElem_toArray, List.getElem_cons_zero, List.getElem_cons_succ]
  refine wpAnyH_ready (rs := [11]) (by kernel_rfl) (by simp) ?_
  refine AllReadyH.cons rfl (fun K hK => ?_) AllReadyH.nil
  refine stepL_callN 25 #[.tmp 75, .tmp 76, .tmp 79, .tmp 82, .tmp 85] #[40, 33, 62, 62, 62] (by rfl) (by rfl) #[.agg #[.int .i64 (rr : Int), .int .i64 ((m : Int) + 1), .int .i64 (P : Int), .slice y.cA nA y.pA, .slice y.cB nB y.pB, .slice y.cC nC y.pC], .slice cPx rr capx, .agg #[.int .i64 (rE 0).v.1, .int .i64 (rE 0).v.2], .agg #[.int .i64 (rE 1).v.1, .int .i64 (rE 1).v.2], .agg #[.int .i64 (rE 2).v.1, .int .i64 (rE 2).v.2]] (by simp only [List.map_toArray, List.map_cons, List.map_nil] <;> rfl) (run_go Tryz.func25 (by kernel_rfl) (by kernel_rfl) _ _) ((boundX_any (⟨(rr : Int), (m : Int) + 1, (P : Int), nA, nB, nC, XA, XB, XC⟩ : Sy) y cPx rr capx (cA px) (cB px) (rE 0).v.1 (rE 0).v.2 (rE 1).v.1 (rE 1).v.2 (rE 2).v.1 (rE 2).v.2 _ (hik (V.out.keep KW.out)) hsm (hik (PairV.keep Px.out KW.out)) (by omega)).mono (fun e w' q => TbE.of q hbc hbn HTB.out.symm)) ?_
  rintro e U1 ⟨cb, capb, he, ob, kk⟩
  have PB := hik (show PairE U1 cb N TB from ob.pairs)
  clear ob
  refine ⟨_, he, ?_⟩
  replace KW := hik (KW.out.trans kk)
  refine hK.out _ _ (SA.out _ KW.out) (fun hHeld => ?_)
  clear hK K
  try simp only [Act.put, List.setIfInBounds_toArray, List.set_cons_zero, List.set_cons_succ, List.getElem_toArray, List.getElem_cons_zero, List.getElem_cons_succ]
  clear he kk
  refine wpAnyH_take (i := 12) (v := ?_) rfl (by kernel_rfl) (by kernel_rfl) (by kernel_rfl) (fun _ _ _ h => h) (Or.inl ⟨by rfl, ?_⟩) (by assumption) ?_
  rotate_left 1
  · (intro w' hSw; (try dsimp only at hSw); go_simp; try with_reducible rfl)
  try simp only [Act.put, List.setIfInBounds_toArray, List.set_cons_zero, List.set_cons_succ, List.getElem_toArray, List.getElem_cons_zero, List.getElem_cons_succ]
  refine wpAnyH_take (i := 13) (v := ?_) rfl (by kernel_rfl) (by kernel_rfl) (by kernel_rfl) (fun _ _ _ h => h) (Or.inl ⟨by rfl, ?_⟩) (by assumption) ?_
  rotate_left 1
  · (intro w' hSw; (try dsimp only at hSw); go_simp; try with_reducible rfl)
  try simp only [Act.put, List.setIfInBounds_toArray, List.set_cons_zero, List.set_cons_succ, List.getElem_toArray, List.getElem_cons_zero, List.getElem_cons_succ]
  refine wpAnyH_take (i := 14) (v := ?_) rfl (by kernel_rfl) (by kernel_rfl) (by kernel_rfl) (fun _ _ _ h => h) (Or.inl ⟨by rfl, ?_⟩) (by assumption) ?_
  rotate_left 1
  · (intro w' hSw; (try dsimp only at hSw); go_simp; try with_reducible rfl)
  try simp only [Act.put, List.setIfInBounds_toArray, List.set_cons_zero, List.set_cons_succ, List.getElem_toArray, List.getElem_cons_zero, List.getElem_cons_succ]
  refine wpAnyH_take (i := 15) (v := ?_) rfl (by kernel_rfl) (by kernel_rfl) (by kernel_rfl) (fun _ _ _ h => h) (Or.inl ⟨by rfl, ?_⟩) (by assumption) ?_
  rotate_left 1
  · (intro w' hSw; (try dsimp only at hSw); go_simp; try with_reducible rfl)
  try simp only [Act.put, List.setIfInBounds_toArray, List.set_cons_zero, List.set_cons_succ, List.getElem_toArray, List.getElem_cons_zero, List.getElem_cons_succ]
  refine wpAnyH_take (i := 16) (v := ?_) rfl (by kernel_rfl) (by kernel_rfl) (by kernel_rfl) (fun _ _ _ h => h) (Or.inl ⟨by rfl, ?_⟩) (by assumption) ?_
  rotate_left 1
  · (intro w' hSw; (try dsimp only at hSw); go_simp; try with_reducible rfl)
  try simp only [Act.put, List.setIfInBounds_toArray, List.set_cons_zero, List.set_cons_succ, List.getElem_toArray, List.getElem_cons_zero, List.getElem_cons_succ]
  refine wpAnyH_done (by kernel_rfl) ?_ _
  replace V := hik (V.out.keep KW.out)
  replace G := hik (G.out.trans KW.out)
  replace BX := hik (BX.out.keep KW.out)
  replace BA := hik (rowIs_keep BA.out KW.out)
  replace PBA := hik (PairV.keep PBA.out KW.out)
  replace BW := hik (rowIs_keep BW.out KW.out)
  replace PBW := hik (PairV.keep PBW.out KW.out)
  replace Px := hik (PairE.keep Px.out KW.out)
  replace Py := hik (PairE.keep Py.out KW.out)
  replace Pr := hik (PairE.keep Pr.out KW.out)
  clear SA hHeld KW hbc hbn x0 x1 x2 x3 x4 x5 q0 q1 q2 q3 q4 q5
  go_wp2_with fail
  refine (tableAt_el cb cPy N (m + 1) capb capy HN.out TB py _ PB Py (by omega)).mono ?_
  rintro e W10 ⟨he, kk⟩
  generalize hTT : El.tat TB py (m + 1) = TT at he
  have HTT := hik hTT
  clear hTT
  subst he
  clear PB
  have KX := hik (kk.alloc (.cells #[.int .i64 TT.v.1, .int .i64 TT.v.2] 62))
  replace V := hik (V.out.keep KX.out)
  replace G := hik (G.out.trans KX.out)
  replace BX := hik (BX.out.keep KX.out)
  replace BA := hik (rowIs_keep BA.out KX.out)
  replace PBA := hik (PairV.keep PBA.out KX.out)
  replace BW := hik (rowIs_keep BW.out KX.out)
  replace PBW := hik (PairV.keep PBW.out KX.out)
  replace Px := hik (PairE.keep Px.out KX.out)
  replace Py := hik (PairE.keep Py.out KX.out)
  replace Pr := hik (PairE.keep Pr.out KX.out)
  have RT := hik (rowN_new W10 2 #[.int .i64 TT.v.1, .int .i64 TT.v.2] 62 rfl)
  clear kk KX
  obtain ⟨x0, x1, x2, x3, x4, x5⟩ := BX.out.six
  go_wp2_with fail
  generalize hgt : W10.heap.size = gt at RT ⊢
  generalize hE : W10.alloc (.cells #[.int .i64 TT.v.1, .int .i64 TT.v.2] 62) = URT at V G BX BA PBA BW PBW Px Py Pr RT x0 x1 x2 x3 x4 x5 ⊢
  clear hgt hE
  clear x0 x1 x2 x3 x4 x5
  have hcA : mac nA XA rr (cA px) (cB px) (m + 1) (cA py) (cB py) = 0 := mac_el _ _ hnA (by omega) (by omega) (by omega) (by omega) EA.out
  have hvA := mav_el px py hcA
  generalize hMA : mte XA (El.eqp px rr) (El.eqp py (m + 1)) nA = MA at hvA
  have HMA := hik hMA
  clear hMA
  refine (matX_any y.cA nA y.pA XA cPx rr capx (cA px) (cB px) cPy (m + 1) capy (cA py) (cB py) _ (hik V.out.A) Px Py (by omega) (by omega) (by omega)).mono ?_
  rintro e W11 ⟨he, kk⟩
  rw [hcA, hvA] at he
  subst he
  clear hcA hvA
  have KX := hik (kk.alloc (.cells #[.int .i64 MA.v.1, .int .i64 MA.v.2] 62))
  replace V := hik (V.out.keep KX.out)
  replace G := hik (G.out.trans KX.out)
  replace BX := hik (BX.out.keep KX.out)
  replace BA := hik (rowIs_keep BA.out KX.out)
  replace PBA := hik (PairV.keep PBA.out KX.out)
  replace BW := hik (rowIs_keep BW.out KX.out)
  replace PBW := hik (PairV.keep PBW.out KX.out)
  replace Px := hik (PairE.keep Px.out KX.out)
  replace Py := hik (PairE.keep Py.out KX.out)
  replace Pr := hik (PairE.keep Pr.out KX.out)
  replace RT := hik (rowIs_keep RT.out KX.out)
  have RA := hik (rowN_new W11 2 #[.int .i64 MA.v.1, .int .i64 MA.v.2] 62 rfl)
  clear kk KX
  obtain ⟨x0, x1, x2, x3, x4, x5⟩ := BX.out.six
  go_wp2_with fail
  generalize hgA : W11.heap.size = gA at RA ⊢
  generalize hE : W11.alloc (.cells #[.int .i64 MA.v.1, .int .i64 MA.v.2] 62) = URA at V G BX BA PBA BW PBW Px Py Pr RT RA x0 x1 x2 x3 x4 x5 ⊢
  clear hgA hE
  clear x0 x1 x2 x3 x4 x5
  have hcB : mac nB XB rr (cA px) (cB px) (m + 1) (cA py) (cB py) = 0 := mac_el _ _ hnB (by omega) (by omega) (by omega) (by omega) EB.out
  have hvB := mav_el px py hcB
  generalize hMB : mte XB (El.eqp px rr) (El.eqp py (m + 1)) nB = MB at hvB
  have HMB := hik hMB
  clear hMB
  refine (matX_any y.cB nB y.pB XB cPx rr capx (cA px) (cB px) cPy (m + 1) capy (cA py) (cB py) _ (hik V.out.B) Px Py (by omega) (by omega) (by omega)).mono ?_
  rintro e W12 ⟨he, kk⟩
  rw [hcB, hvB] at he
  subst he
  clear hcB hvB
  have KX := hik (kk.alloc (.cells #[.int .i64 MB.v.1, .int .i64 MB.v.2] 62))
  replace V := hik (V.out.keep KX.out)
  replace G := hik (G.out.trans KX.out)
  replace BX := hik (BX.out.keep KX.out)
  replace BA := hik (rowIs_keep BA.out KX.out)
  replace PBA := hik (PairV.keep PBA.out KX.out)
  replace BW := hik (rowIs_keep BW.out KX.out)
  replace PBW := hik (PairV.keep PBW.out KX.out)
  replace Px := hik (PairE.keep Px.out KX.out)
  replace Py := hik (PairE.keep Py.out KX.out)
  replace Pr := hik (PairE.keep Pr.out KX.out)
  replace RT := hik (rowIs_keep RT.out KX.out)
  replace RA := hik (rowIs_keep RA.out KX.out)
  have RB := hik (rowN_new W12 2 #[.int .i64 MB.v.1, .int .i64 MB.v.2] 62 rfl)
  clear kk KX
  obtain ⟨x0, x1, x2, x3, x4, x5⟩ := BX.out.six
  go_wp2_with fail
  generalize hgB : W12.heap.size = gB at RB ⊢
  generalize hE : W12.alloc (.cells #[.int .i64 MB.v.1, .int .i64 MB.v.2] 62) = URB at V G BX BA PBA BW PBW Px Py Pr RT RA RB x0 x1 x2 x3 x4 x5 ⊢
  clear hgB hE
  clear x0 x1 x2 x3 x4 x5
  have hcC : mac nC XC rr (cA px) (cB px) (m + 1) (cA py) (cB py) = 0 := mac_el _ _ hnC (by omega) (by omega) (by omega) (by omega) EC.out
  have hvC := mav_el px py hcC
  generalize hMC : mte XC (El.eqp px rr) (El.eqp py (m + 1)) nC = MC at hvC
  have HMC := hik hMC
  clear hMC
  refine (matX_any y.cC nC y.pC XC cPx rr capx (cA px) (cB px) cPy (m + 1) capy (cA py) (cB py) _ (hik V.out.C) Px Py (by omega) (by omega) (by omega)).mono ?_
  rintro e W13 ⟨he, kk⟩
  rw [hcC, hvC] at he
  subst he
  clear hcC hvC
  have KX := hik (kk.alloc (.cells #[.int .i64 MC.v.1, .int .i64 MC.v.2] 62))
  replace V := hik (V.out.keep KX.out)
  replace G := hik (G.out.trans KX.out)
  replace BX := hik (BX.out.keep KX.out)
  replace BA := hik (rowIs_keep BA.out KX.out)
  replace PBA := hik (PairV.keep PBA.out KX.out)
  replace BW := hik (rowIs_keep BW.out KX.out)
  replace PBW := hik (PairV.keep PBW.out KX.out)
  replace Px := hik (PairE.keep Px.out KX.out)
  replace Py := hik (PairE.keep Py.out KX.out)
  replace Pr := hik (PairE.keep Pr.out KX.out)
  replace RT := hik (rowIs_keep RT.out KX.out)
  replace RA := hik (rowIs_keep RA.out KX.out)
  replace RB := hik (rowIs_keep RB.out KX.out)
  have RC := hik (rowN_new W13 2 #[.int .i64 MC.v.1, .int .i64 MC.v.2] 62 rfl)
  clear kk KX
  have a0 : (W13.alloc (.cells #[.int .i64 MC.v.1, .int .i64 MC.v.2] 62)).cell? ⟨gA, 0, none⟩ = some (.int .i64 MA.v.1) := RA.out.cell (i := 0) (by omega)
  have a1 : (W13.alloc (.cells #[.int .i64 MC.v.1, .int .i64 MC.v.2] 62)).cell? ⟨gA, 1, none⟩ = some (.int .i64 MA.v.2) := RA.out.cell (i := 1) (by omega)
  have b0 : (W13.alloc (.cells #[.int .i64 MC.v.1, .int .i64 MC.v.2] 62)).cell? ⟨gB, 0, none⟩ = some (.int .i64 MB.v.1) := RB.out.cell (i := 0) (by omega)
  have b1 : (W13.alloc (.cells #[.int .i64 MC.v.1, .int .i64 MC.v.2] 62)).cell? ⟨gB, 1, none⟩ = some (.int .i64 MB.v.2) := RB.out.cell (i := 1) (by omega)
  go_wp2_with fail
  have K3 := hik ((Chg.refl nob (W13.alloc (.cells #[.int .i64 MC.v.1, .int .i64 MC.v.2] 62))).alloc (.cells #[.int .i64 MA.v.1, .int .i64 MA.v.2, .int .i64 MB.v.1, .int .i64 MB.v.2, .int .i64 MC.v.1, .int .i64 MC.v.2] 62))
  replace V := hik (V.out.keep K3.out)
  replace G := hik (G.out.trans K3.out)
  replace BX := hik (BX.out.keep K3.out)
  replace BA := hik (rowIs_keep BA.out K3.out)
  replace PBA := hik (PairV.keep PBA.out K3.out)
  replace BW := hik (rowIs_keep BW.out K3.out)
  replace PBW := hik (PairV.keep PBW.out K3.out)
  replace Px := hik (PairE.keep Px.out K3.out)
  replace Py := hik (PairE.keep Py.out K3.out)
  replace Pr := hik (PairE.keep Pr.out K3.out)
  replace RT := hik (rowIs_keep RT.out K3.out)
  replace RA := hik (rowIs_keep RA.out K3.out)
  replace RB := hik (rowIs_keep RB.out K3.out)
  replace RC := hik (rowIs_keep RC.out K3.out)
  have P3 := hik (pair3_new (W13.alloc (.cells #[.int .i64 MC.v.1, .int .i64 MC.v.2] 62)) MA.v.1 MA.v.2 MB.v.1 MB.v.2 MC.v.1 MC.v.2 62)
  rw [asz, v3_A, v3_B] at P3
  generalize hgC : W13.heap.size = gC at RC P3 ⊢
  generalize hE : (W13.alloc (.cells #[.int .i64 MC.v.1, .int .i64 MC.v.2] 62)).alloc (.cells #[.int .i64 MA.v.1, .int .i64 MA.v.2, .int .i64 MB.v.1, .int .i64 MB.v.2, .int .i64 MC.v.1, .int .i64 MC.v.2] 62) = UC at V G BX BA PBA BW PBW Px Py Pr RT RA RB RC P3 ⊢
  clear hgC hE K3 a0 a1 b0 b1
  refine (extDot_any _ _ 3 3 capr 3 (cA rE) (cB rE) (cA (v3E MA MB MC)) (cB (v3E MA MB MC)) _ Pr P3 (by omega) (by omega)).mono ?_
  rintro e W14 ⟨he, kk⟩
  rw [dotc_el, (dotv_el rE (v3E MA MB MC)).1, (dotv_el rE (v3E MA MB MC)).2, show dtE rE (v3E MA MB MC) 3 = TT by
    rw [dot3_el, ← HTT.out, HTB.out]
    unfold bdv
    rw [elF_el, tat_btK, ← HMA.out, ← HMB.out, ← HMC.out]
    · show _ = El.ad (El.ad (El.ml (elP (rE 0).v.1 (rE 0).v.2) _) (El.ml (elP (rE 1).v.1 (rE 1).v.2) _)) (El.ml (elP (rE 2).v.1 (rE 2).v.2) _)
      rw [elP_el, elP_el, elP_el]
    · intro k i hk hi
      obtain ⟨ri, ci, er, ec, hri, hci, _, _⟩ := win_col HOK.out (k := k) hi
      rw [ec, Int.toNat_natCast]
      dsimp only at hci
      rw [tq9] at hci
      exact hci] at he
  subst he
  clear P3
  have KX := hik (kk.alloc (.cells #[.int .i64 TT.v.1, .int .i64 TT.v.2] 62))
  replace V := hik (V.out.keep KX.out)
  replace G := hik (G.out.trans KX.out)
  replace BX := hik (BX.out.keep KX.out)
  replace BA := hik (rowIs_keep BA.out KX.out)
  replace PBA := hik (PairV.keep PBA.out KX.out)
  replace BW := hik (rowIs_keep BW.out KX.out)
  replace PBW := hik (PairV.keep PBW.out KX.out)
  replace Px := hik (PairE.keep Px.out KX.out)
  replace Py := hik (PairE.keep Py.out KX.out)
  replace Pr := hik (PairE.keep Pr.out KX.out)
  replace RT := hik (rowIs_keep RT.out KX.out)
  replace RA := hik (rowIs_keep RA.out KX.out)
  replace RB := hik (rowIs_keep RB.out KX.out)
  replace RC := hik (rowIs_keep RC.out KX.out)
  have RD := hik (rowN_new W14 2 #[.int .i64 TT.v.1, .int .i64 TT.v.2] 62 rfl)
  clear kk KX
  have a0 : (W14.alloc (.cells #[.int .i64 TT.v.1, .int .i64 TT.v.2] 62)).cell? ⟨ga, 0, none⟩ = some (.slice ca ls capca) := BA.out.cell (i := 0) (by omega)
  have a1 : (W14.alloc (.cells #[.int .i64 TT.v.1, .int .i64 TT.v.2] 62)).cell? ⟨ga, 1, none⟩ = some (.int .i64 at') := BA.out.cell (i := 1) (by omega)
  have a2 : (W14.alloc (.cells #[.int .i64 TT.v.1, .int .i64 TT.v.2] 62)).cell? ⟨ga, 2, none⟩ = some (.string SX) := BA.out.cell (i := 2) (by omega)
  have a3 : (W14.alloc (.cells #[.int .i64 TT.v.1, .int .i64 TT.v.2] 62)).cell? ⟨ga, 3, none⟩ = some (.int .i64 0) := BA.out.cell (i := 3) (by omega)
  have b0 : (W14.alloc (.cells #[.int .i64 TT.v.1, .int .i64 TT.v.2] 62)).cell? ⟨gw, 0, none⟩ = some (.slice cw ls capcw) := BW.out.cell (i := 0) (by omega)
  have b1 : (W14.alloc (.cells #[.int .i64 TT.v.1, .int .i64 TT.v.2] 62)).cell? ⟨gw, 1, none⟩ = some (.int .i64 at') := BW.out.cell (i := 1) (by omega)
  have b2 : (W14.alloc (.cells #[.int .i64 TT.v.1, .int .i64 TT.v.2] 62)).cell? ⟨gw, 2, none⟩ = some (.string SX) := BW.out.cell (i := 2) (by omega)
  have b3 : (W14.alloc (.cells #[.int .i64 TT.v.1, .int .i64 TT.v.2] 62)).cell? ⟨gw, 3, none⟩ = some (.int .i64 0) := BW.out.cell (i := 3) (by omega)
  go_wp2_with fail
  generalize hgd : W14.heap.size = gd at RD ⊢
  generalize hE : W14.alloc (.cells #[.int .i64 TT.v.1, .int .i64 TT.v.2] 62) = UD at V G BX BA PBA BW PBW Px Py Pr RT RA RB RC RD a0 a1 a2 a3 b0 b1 b2 b3 ⊢
  clear hgd hE a0 a1 a2 a3 b0 b1 b2 b3
  refine (sameSource_any ca cw ls capca capcw fs gs at' SX 0 _ PBA PBW (by omega)).mono ?_
  rintro e W15 ⟨rfl, kk⟩
  replace V := hik (V.out.keep kk)
  replace G := hik (G.out.trans kk)
  replace BX := hik (BX.out.keep kk)
  replace BA := hik (rowIs_keep BA.out kk)
  replace PBA := hik (PairV.keep PBA.out kk)
  replace BW := hik (rowIs_keep BW.out kk)
  replace PBW := hik (PairV.keep PBW.out kk)
  replace Px := hik (PairE.keep Px.out kk)
  replace Py := hik (PairE.keep Py.out kk)
  replace Pr := hik (PairE.keep Pr.out kk)
  replace RT := hik (rowIs_keep RT.out kk)
  replace RA := hik (rowIs_keep RA.out kk)
  replace RB := hik (rowIs_keep RB.out kk)
  replace RC := hik (rowIs_keep RC.out kk)
  replace RD := hik (rowIs_keep RD.out kk)
  clear kk
  have t0 : W15.cell? ⟨gt, 0, none⟩ = some (.int .i64 TT.v.1) := RT.out.cell (i := 0) (by omega)
  have t1 : W15.cell? ⟨gt, 1, none⟩ = some (.int .i64 TT.v.2) := RT.out.cell (i := 1) (by omega)
  have d0 : W15.cell? ⟨gd, 0, none⟩ = some (.int .i64 TT.v.1) := RD.out.cell (i := 0) (by omega)
  have d1 : W15.cell? ⟨gd, 1, none⟩ = some (.int .i64 TT.v.2) := RD.out.cell (i := 1) (by omega)
  go_wp2
  go_ret
  exact ⟨rfl, G.out.belowAll⟩

end Go.Proofs.YtkpohajmcngjcaaGreatDoor
