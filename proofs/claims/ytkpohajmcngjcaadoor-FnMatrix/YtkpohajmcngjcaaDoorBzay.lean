/- Several texts in one: Elements in blocks of their own, slices of elements of a call's own: words. No condition but those that each theorem states. · What the model's matrix at two points answers: a contract. -/
import Derived.Test.YtkpohajmcngjcaaDoorBzax
import Derived.Test.YtkpohajmcngjcaaDoorBzar
import Derived.Test.YtkpohajmcngjcaaDoorBzas
import Derived.Test.YtkpohajmcngjcaaDoorBzai
import Derived.Test.YtkpohajmcngjcaaDoorBzal
namespace Go.Proofs.YtkpohajmcngjcaaDoor
open Go.ChangeShapes Go.WideShapes Go.ChangeAt Go.RowKit
set_option linter.unusedVariables false
set_option maxRecDepth 100000
set_option linter.unusedSimpArgs false

/-- No element. -/
def zE (_ : Nat) : El := El.zr
/-- An element in a block of its own. -/
def ElB (W : World) (b : Nat) (x : El) : Prop := W.rowIs b 40 2 (pv2 (.int .i64 x.v.1) (.int .i64 x.v.2))
theorem ElB.new (W : World) (x : El) : ElB (W.alloc (.cells #[.int .i64 x.v.1, .int .i64 x.v.2] 40)) W.heap.size x := row2_new W _ _ _
theorem ElB.zero (W : World) : ElB (W.alloc (.cells #[.int .i64 0, .int .i64 0] 40)) W.heap.size El.zr := row2_new W _ _ _
theorem ElB.keep {W W' : World} {b : Nat} {x : El} (h : ElB W b x) (k : Chg nob W W') : ElB W' b x := rowIs_keep h k
theorem ElB.chg {P : Nat → Prop} {W W' : World} {b : Nat} {x : El} (h : ElB W b x) (k : Chg P W W') (hp : ¬ P b) : ElB W' b x := rowIs_chg h k hp
theorem ElB.lt {W : World} {b : Nat} {x : El} (h : ElB W b x) : b < W.heap.size := World.rowIs.lt h
theorem ElB.c0 {W : World} {b : Nat} {x : El} (h : ElB W b x) : W.cell? ⟨b, 0, none⟩ = some (.int .i64 x.v.1) := row2_c0 h
theorem ElB.c1 {W : World} {b : Nat} {x : El} (h : ElB W b x) : W.cell? ⟨b, 1, none⟩ = some (.int .i64 x.v.2) := row2_c1 h
theorem ElB.fz {W : World} {b : Nat} {x : El} (h : ElB W b x) (o : Nat) : W.frozen? ⟨b, o, none⟩ = false := World.rowIs.frozen h o
theorem ElB.set {W : World} {b : Nat} {x : El} (h : ElB W b x) (y : El) : ElB ((W.setCell ⟨b, 0, none⟩ (.int .i64 y.v.1)).setCell ⟨b, 1, none⟩ (.int .i64 y.v.2)) b y := row2_set h _ _
theorem ElB.other {W : World} {b g : Nat} {x : El} (h : ElB W b x) (hne : b ≠ g) (o o' : Nat) (u v : Value) : ElB ((W.setCell ⟨g, o, none⟩ u).setCell ⟨g, o', none⟩ v) b x :=
  World.rowIs.setOther (a := ⟨g, o', none⟩) (World.rowIs.setOther (a := ⟨g, o, none⟩) h hne u) hne v

/-- A slice of elements of a call's own, or none. -/
def SlAns (w : World) (n : Nat) (t : Nat → El) (e : Ending) (w' : World) : Prop :=
  ∃ (c : Option Addr) (cap : Nat), e = .returned (.slice c n cap) ∧ n ≤ cap ∧ (cap : Int) ≤ 9223372036854775807 ∧ OwnE w' w.heap.size c n (cA t) (cB t) ∧ Chg nob w w'

end Go.Proofs.YtkpohajmcngjcaaDoor

namespace Go.Proofs.YtkpohajmcngjcaaDoor
open Go.ChangeShapes Go.WideShapes Go.ChangeAt Go.RowKit
set_option linter.unusedVariables false
set_option maxRecDepth 100000
set_option linter.unusedSimpArgs false

theorem sOfE (X : El) (hb : X.v.2 = 0) (w : World) : Calls Tryd.prog 57 #[.int .i64 X.v.1] w fun e w' => e = .returned (.agg #[.int .i64 X.v.1, .int .i64 X.v.2]) ∧ Chg nob w w' :=
  (l02Of_any X.v.1 w).mono (fun e w' h => ⟨by rw [h.1, hb], by rw [h.2]; exact (Chg.refl nob w).alloc _⟩)

set_option maxHeartbeats 4000000 in
theorem sMat_el (c : Option Addr) (n cap : Nat) (X : Nat → En) (cx : Option Addr) (rx capx : Nat) (p : Nat → El) (cy : Option Addr) (ry capy : Nat) (q : Nat → El) (w : World) (hv : Hid (EntV w c n X)) (hp : Hid (PairE w cx rx p)) (hq : Hid (PairE w cy ry q)) (hrx : rx ≤ 5) (hry : ry ≤ 5) (hn : n ≤ 200)
    (hw : Hid (∀ i, i < n → win (2 ^ rx) (2 ^ ry) (X i) = true)) :
    Calls Tryd.prog 35 #[.slice c n cap, .slice cx rx capx, .slice cy ry capy] w fun e w' => e = .returned (.agg #[.int .i64 (mte X (El.eqp p rx) (El.eqp q ry) n).v.1, .int .i64 (mte X (El.eqp p rx) (El.eqp q ry) n).v.2]) ∧ Chg nob w w' := by
  obtain ⟨A, hA⟩ : ∃ A, A = El.eqp p rx := ⟨_, rfl⟩
  obtain ⟨B, hB⟩ : ∃ B, B = El.eqp q ry := ⟨_, rfl⟩
  rw [← hA, ← hB]
  have HA := hik hA
  have HB := hik hB
  clear hA hB
  go_enter Tryd.func35, Tryd.ntmps35
  go_wp2_with fail
  refine (sEq_any cx rx capx p _ (hik (PairE.keep hp.out ((Chg.refl nob w).alloc _))) (by omega)).mono ?_
  rintro e W1 ⟨ya, rfl, hb1, r1, k1⟩
  have A1 := hik (show RowE W1 ya (2 ^ rx) A by rw [HA.out]; exact r1)
  have R1 := hik ((ElB.zero w).keep k1)
  have G1 := hik (((Chg.refl nob w).alloc _).trans k1)
  clear k1 r1
  go_wp2_with fail
  refine (sEq_any cy ry capy q _ (hik (PairE.keep hq.out G1.out)) (by omega)).mono ?_
  rintro e W2 ⟨yb, rfl, hb2, r2, k2⟩
  have B2 := hik (show RowE W2 yb (2 ^ ry) B by rw [HB.out]; exact r2)
  have A2 := hik (A1.out.keep k2)
  have R2 := hik (R1.out.keep k2)
  have G2 := hik (G1.out.trans k2)
  clear k2 r2 A1 R1 G1
  have hw1 : w.heap.size < W2.heap.size := R2.out.lt
  have hya : ya < W2.heap.size := A2.out.lt
  have hyb : yb < W2.heap.size := B2.out.lt
  clear hb1 hb2
  go_wp2
  go_loopw [10] (fun i W => ∃ k : Nat, k ≤ n ∧ i = .int .i64 k ∧ Hid (ElB W W2.heap.size (mte X A B k)) ∧ Hid (ElB W w.heap.size El.zr) ∧ Hid (Chg nob w W) ∧ Hid (RowE W ya (2 ^ rx) A) ∧ Hid (RowE W yb (2 ^ ry) B)) (fun i _ => n - (intOf i).toNat)
  case atStart => exact ⟨0, Nat.zero_le _, rfl, hik (ElB.zero W2), hik (R2.out.keep ((Chg.refl nob _).alloc _)), hik (G2.out.alloc _), hik (A2.out.keep ((Chg.refl nob _).alloc _)), hik (B2.out.keep ((Chg.refl nob _).alloc _))⟩
  case round =>
    clear R2 G2 A2 B2
    obtain ⟨k, hk, rfl, HE, HR, HG, HYA, HYB⟩ := hrel
    rename World => wi
    by_cases hlt : k < n
    · have hkn : ((k : Nat) : Int) < n := by omega
      obtain ⟨xb, xo, rfl, hxb, c0, c1, c2⟩ := (hv.out.keep HG.out) k hlt
      obtain ⟨ri, ci, er, ec, hri, hci, v0, v1⟩ := win_nat (hw.out k hlt)
      have hriN : ri < 2 ^ rx := by have e := pow_cast rx; omega
      have hciN : ci < 2 ^ ry := by have e := pow_cast ry; omega
      rw [er] at c0
      rw [ec] at c1
      rw [← El.ofi_v (by omega) v1] at c2
      have HST := hik (show mte X A B (k + 1) = El.ad (mte X A B k) (El.ml (El.ofi (X k).2.2) (El.ml (A ri) (B ci))) by
        show El.ad _ (El.ml _ (El.ml (A (X k).1.toNat) (B (X k).2.1.toNat))) = _
        rw [er, ec, Int.toNat_natCast, Int.toNat_natCast])
      have hV2 := El.ofi_w (X k).2.2
      clear er ec v0 v1
      generalize El.ofi (X k).2.2 = V at c2 HST hV2
      generalize hS : mte X A B k = S at HE HST
      clear hS
      have KB := hik ((Chg.refl nob wi).alloc (.cells #[.int .i64 (ri : Int), .int .i64 (ci : Int), .int .i64 V.v.1] 44))
      have p0 := KB.out.see (HYA.out.c0 hriN)
      have p1 := KB.out.see (HYA.out.c1 hriN)
      have q0 := KB.out.see (HYB.out.c0 hciN)
      have q1 := KB.out.see (HYB.out.c1 hciN)
      have s0 := KB.out.see HE.out.c0
      have s1 := KB.out.see HE.out.c1
      have e0 : World.cell? (wi.alloc (.cells #[.int .i64 (ri : Int), .int .i64 (ci : Int), .int .i64 V.v.1] 44)) ⟨wi.heap.size, 0, none⟩ = some (.int .i64 (ri : Int)) := by go_simp
      have e1 : World.cell? (wi.alloc (.cells #[.int .i64 (ri : Int), .int .i64 (ci : Int), .int .i64 V.v.1] 44)) ⟨wi.heap.size, 1, none⟩ = some (.int .i64 (ci : Int)) := by go_simp
      have e2 : World.cell? (wi.alloc (.cells #[.int .i64 (ri : Int), .int .i64 (ci : Int), .int .i64 V.v.1] 44)) ⟨wi.heap.size, 2, none⟩ = some (.int .i64 V.v.1) := by go_simp
      replace HE := hik (HE.out.keep KB.out)
      replace HR := hik (HR.out.keep KB.out)
      replace HG := hik (HG.out.trans KB.out)
      replace HYA := hik (HYA.out.keep KB.out)
      replace HYB := hik (HYB.out.keep KB.out)
      go_upto_region 8 with fail
      clear c0 c1 c2
      generalize wi.alloc (.cells #[.int .i64 (ri : Int), .int .i64 (ci : Int), .int .i64 V.v.1] 44) = W0 at p0 p1 q0 q1 s0 s1 e0 e1 e2 HE HR HG HYA HYB KB ⊢
      have KW := hik ((Chg.refl nob W0).drew1)
      have SA := hik (fun (WW : World) (kW : Chg nob W0 WW) => (show (WW.cell? ⟨wi.heap.size, 0, none⟩ = some (.int .i64 (ri : Int)) ∧ WW.cell? ⟨wi.heap.size, 1, none⟩ = some (.int .i64 (ci : Int)) ∧ WW.cell? ⟨wi.heap.size, 2, none⟩ = some (.int .i64 V.v.1) ∧ WW.cell? ⟨ya, ri * 2, none⟩ = some (.int .i64 (A ri).v.1) ∧ WW.cell? ⟨ya, ri * 2 + 1, none⟩ = some (.int .i64 (A ri).v.2) ∧ WW.cell? ⟨yb, ci * 2, none⟩ = some (.int .i64 (B ci).v.1) ∧ WW.cell? ⟨yb, ci * 2 + 1, none⟩ = some (.int .i64 (B ci).v.2) ∧ WW.cell? ⟨W2.heap.size, 0, none⟩ = some (.int .i64 S.v.1) ∧ WW.cell? ⟨W2.heap.size, 1, none⟩ = some (.int .i64 S.v.2)) from ⟨kW.see e0, kW.see e1, kW.see e2, kW.see p0, kW.see p1, kW.see q0, kW.see q1, kW.see s0, kW.see s1⟩))
      refine wp_regionL (L := 17) (S := fun w' => w'.cell? ⟨wi.heap.size, 0, none⟩ = some (.int .i64 (ri : Int)) ∧ w'.cell? ⟨wi.heap.size, 1, none⟩ = some (.int .i64 (ci : Int)) ∧ w'.cell? ⟨wi.heap.size, 2, none⟩ = some (.int .i64 V.v.1) ∧ w'.cell? ⟨ya, ri * 2, none⟩ = some (.int .i64 (A ri).v.1) ∧ w'.cell? ⟨ya, ri * 2 + 1, none⟩ = some (.int .i64 (A ri).v.2) ∧ w'.cell? ⟨yb, ci * 2, none⟩ = some (.int .i64 (B ci).v.1) ∧ w'.cell? ⟨yb, ci * 2 + 1, none⟩ = some (.int .i64 (B ci).v.2) ∧ w'.cell? ⟨W2.heap.size, 0, none⟩ = some (.int .i64 S.v.1) ∧ w'.cell? ⟨W2.heap.size, 1, none⟩ = some (.int .i64 S.v.2)) (by kernel_rfl) ⟨e0, e1, e2, p0, p1, q0, q1, s0, s1⟩ (fun hHeld => ?_)
      refine wpAnyL_take (i := 0) (v := ?_) rfl (by kernel_rfl) (by kernel_rfl) (by kernel_rfl) (fun _ _ _ h => h) (by rfl) (by kernel_rfl) (by kernel_rfl) (Or.inl ⟨by rfl, ?_⟩) (by assumption) ?_
      rotate_left 1
      · (intro w' hSw; (try dsimp only at hSw); go_simp; try with_reducible rfl)
      try simp only [Act.put, List.setIfInBounds_toArray, List.set_cons_zero, List.set_cons_succ, List.getElem_toArray, List.getElem_cons_zero, List.getElem_cons_succ]
      refine wpAnyL_take (i := 1) (v := ?_) rfl (by kernel_rfl) (by kernel_rfl) (by kernel_rfl) (fun _ _ _ h => h) (by rfl) (by kernel_rfl) (by kernel_rfl) (Or.inl ⟨by rfl, ?_⟩) (by assumption) ?_
      rotate_left 1
      · (intro w' hSw; (try dsimp only at hSw); go_simp; try with_reducible rfl)
      try simp only [Act.put, List.setIfInBounds_toArray, List.set_cons_zero, List.set_cons_succ, List.getElem_toArray, List.getElem_cons_zero, List.getElem_cons_succ]
      refine wpAnyL_take (i := 2) (v := ?_) rfl (by kernel_rfl) (by kernel_rfl) (by kernel_rfl) (fun _ _ _ h => h) (by rfl) (by kernel_rfl) (by kernel_rfl) (Or.inl ⟨by rfl, ?_⟩) (by assumption) ?_
      rotate_left 1
      · (intro w' hSw; (try dsimp only at hSw); go_simp; try with_reducible rfl)
      try simp only [Act.put, List.setIfInBounds_toArray, List.set_cons_zero, List.set_cons_succ, List.getElem_toArray, List.getElem_cons_zero, List.getElem_cons_succ]
      refine wpAnyL_take (i := 4) (v := ?_) rfl (by kernel_rfl) (by kernel_rfl) (by kernel_rfl) (fun _ _ _ h => h) (by rfl) (by kernel_rfl) (by kernel_rfl) (Or.inl ⟨by rfl, ?_⟩) (by assumption) ?_
      rotate_left 1
      · (intro w' hSw; (try dsimp only at hSw); go_simp; try with_reducible rfl)
      try simp only [Act.put, List.setIfInBounds_toArray, List.set_cons_zero, List.set_cons_succ, List.getElem_toArray, List.getElem_cons_zero, List.getElem_cons_succ]
      refine wpAnyL_take (i := 5) (v := ?_) rfl (by kernel_rfl) (by kernel_rfl) (by kernel_rfl) (fun _ _ _ h => h) (by rfl) (by kernel_rfl) (by kernel_rfl) (Or.inl ⟨by rfl, ?_⟩) (by assumption) ?_
      rotate_left 1
      · (intro w' hSw; (try dsimp only at hSw); go_simp; try with_reducible rfl)
      try simp only [Act.put, List.setIfInBounds_toArray, List.set_cons_zero, List.set_cons_succ, List.getElem_toArray, List.getElem_cons_zero, List.getElem_cons_succ]
      refine wpAnyL_take (i := 6) (v := ?_) rfl (by kernel_rfl) (by kernel_rfl) (by kernel_rfl) (fun _ _ _ h => h) (by rfl) (by kernel_rfl) (by kernel_rfl) (Or.inl ⟨by rfl, ?_⟩) (by assumption) ?_
      rotate_left 1
      · (intro w' hSw; (try dsimp only at hSw); go_simp; try with_reducible rfl)
      try simp only [Act.put, List.setIfInBounds_toArray, List.set_cons_zero, List.set_cons_succ, List.getElem_toArray, List.getElem_cons_zero, List.getElem_cons_succ]
      refine wpAnyL_take (i := 7) (v := ?_) rfl (by kernel_rfl) (by kernel_rfl) (by kernel_rfl) (fun _ _ _ h => h) (by rfl) (by kernel_rfl) (by kernel_rfl) (Or.inl ⟨by rfl, ?_⟩) (by assumption) ?_
      rotate_left 1
      · (intro w' hSw; (try dsimp only at hSw); go_simp; try with_reducible rfl)
      try simp only [Act.put, List.setIfInBounds_toArray, List.set_cons_zero, List.set_cons_succ, List.getElem_toArray, List.getElem_cons_zero, List.getElem_cons_succ]
      refine wpAnyL_take (i := 8) (v := ?_) rfl (by kernel_rfl) (by kernel_rfl) (by kernel_rfl) (fun _ _ _ h => h) (by rfl) (by kernel_rfl) (by kernel_rfl) (Or.inl ⟨by rfl, ?_⟩) (by assumption) ?_
      rotate_left 1
      · (intro w' hSw; (try dsimp only at hSw); go_simp; try with_reducible rfl)
      try simp only [Act.put, List.setIfInBounds_toArray, List.set_cons_zero, List.set_cons_succ, List.getElem_toArray, List.getElem_cons_zero, List.getElem_cons_succ]
      refine wpAnyL_take (i := 9) (v := ?_) rfl (by kernel_rfl) (by kernel_rfl) (by kernel_rfl) (fun _ _ _ h => h) (by rfl) (by kernel_rfl) (by kernel_rfl) (Or.inl ⟨by rfl, ?_⟩) (by assumption) ?_
      rotate_left 1
      · (intro w' hSw; (try dsimp only at hSw); go_simp; try with_reducible rfl)
      try simp only [Act.put, List.setIfInBounds_toArray, List.set_cons_zero, List.set_cons_succ, List.getElem_toArray, List.getElem_cons_zero, List.getElem_cons_succ]
      refine wpAnyL_take (i := 10) (v := ?_) rfl (by kernel_rfl) (by kernel_rfl) (by kernel_rfl) (fun _ _ _ h => h) (by rfl) (by kernel_rfl) (by kernel_rfl) (Or.inl ⟨by rfl, ?_⟩) (by assumption) ?_
      rotate_left 1
      · (intro w' hSw; (try dsimp only at hSw); go_simp; try with_reducible rfl)
      try simp only [Act.put, List.setIfInBounds_toArray, List.set_cons_zero, List.set_cons_succ, List.getElem_toArray, List.getElem_cons_zero, List.getElem_cons_succ]
      refine wpAnyL_take (i := 11) (v := ?_) rfl (by kernel_rfl) (by kernel_rfl) (by kernel_rfl) (fun _ _ _ h => h) (by rfl) (by kernel_rfl) (by kernel_rfl) (Or.inl ⟨by rfl, ?_⟩) (by assumption) ?_
      rotate_left 1
      · (intro w' hSw; (try dsimp only at hSw); go_simp; try with_reducible rfl)
      try simp only [Act.put, List.setIfInBounds_toArray, List.set_cons_zero, List.set_cons_succ, List.getElem_toArray, List.getElem_cons_zero, List.getElem_cons_succ]
      refine wpAnyL_take (i := 12) (v := ?_) rfl (by kernel_rfl) (by kernel_rfl) (by kernel_rfl) (fun _ _ _ h => h) (by rfl) (by kernel_rfl) (by kernel_rfl) (Or.inl ⟨by rfl, ?_⟩) (by assumption) ?_
      rotate_left 1
      · (intro w' hSw; (try dsimp only at hSw); go_simp; try with_reducible rfl)
      try simp only [Act.put, List.setIfInBounds_toArray, List.set_cons_zero, List.set_cons_succ, List.getElem_toArray, List.getElem_cons_zero, List.getElem_cons_succ]
      refine wpAnyL_take (i := 13) (v := ?_) rfl (by kernel_rfl) (by kernel_rfl) (by kernel_rfl) (fun _ _ _ h => h) (by rfl) (by kernel_rfl) (by kernel_rfl) (Or.inl ⟨by rfl, ?_⟩) (by assumption) ?_
      rotate_left 1
      · (intro w' hSw; (try dsimp only at hSw); go_simp; try with_reducible rfl)
      try simp only [Act.put, List.setIfInBounds_toArray, List.set_cons_zero, List.set_cons_succ, List.getElem_toArray, List.getElem_cons_zero, List.getElem_cons_succ]
      refine wpAnyL_ready (rs := [3]) (by kernel_rfl) (by simp) ?_
      refine AllReadyL.cons rfl (fun K hK => ?_) AllReadyL.nil
      refine stepL_callN 57 #[.tmp 29] #[3] (by rfl) (by rfl) #[.int .i64 V.v.1] (by simp only [List.map_toArray, List.map_cons, List.map_nil] <;> rfl) (run_go Tryd.func57 (by kernel_rfl) (by kernel_rfl) _ _) (sOfE V hV2 _) ?_
      rintro e U1 ⟨he, kk⟩
      refine ⟨_, he, ?_⟩
      replace KW := hik (KW.out.trans kk)
      refine hK.out _ _ (SA.out _ KW.out) (fun hHeld => ?_)
      clear hK K
      try simp only [Act.put, List.setIfInBounds_toArray, List.set_cons_zero, List.set_cons_succ, List.getElem_toArray, List.getElem_cons_zero, List.getElem_cons_succ]
      clear he kk
      refine wpAnyL_ready (rs := [14]) (by kernel_rfl) (by simp) ?_
      refine AllReadyL.cons rfl (fun K hK => ?_) AllReadyL.nil
      refine stepL_callN 56 #[.tmp 35, .tmp 40] #[40, 40] (by rfl) (by rfl) #[.agg #[.int .i64 (A ri).v.1, .int .i64 (A ri).v.2], .agg #[.int .i64 (B ci).v.1, .int .i64 (B ci).v.2]] (by simp only [List.map_toArray, List.map_cons, List.map_nil] <;> rfl) (run_go Tryd.func56 (by kernel_rfl) (by kernel_rfl) _ _) (sMl_el (A ri) (B ci) _) ?_
      rintro e U2 ⟨he, kk⟩
      refine ⟨_, he, ?_⟩
      replace KW := hik (KW.out.trans kk)
      refine hK.out _ _ (SA.out _ KW.out) (fun hHeld => ?_)
      clear hK K
      try simp only [Act.put, List.setIfInBounds_toArray, List.set_cons_zero, List.set_cons_succ, List.getElem_toArray, List.getElem_cons_zero, List.getElem_cons_succ]
      clear he kk
      refine wpAnyL_ready (rs := [15]) (by kernel_rfl) (by simp) ?_
      refine AllReadyL.cons rfl (fun K hK => ?_) AllReadyL.nil
      refine stepL_callN 56 #[.tmp 30, .tmp 41] #[40, 40] (by rfl) (by rfl) #[.agg #[.int .i64 V.v.1, .int .i64 V.v.2], .agg #[.int .i64 (El.ml (A ri) (B ci)).v.1, .int .i64 (El.ml (A ri) (B ci)).v.2]] (by simp only [List.map_toArray, List.map_cons, List.map_nil] <;> rfl) (run_go Tryd.func56 (by kernel_rfl) (by kernel_rfl) _ _) (sMl_el V (El.ml (A ri) (B ci)) _) ?_
      rintro e U3 ⟨he, kk⟩
      refine ⟨_, he, ?_⟩
      replace KW := hik (KW.out.trans kk)
      refine hK.out _ _ (SA.out _ KW.out) (fun hHeld => ?_)
      clear hK K
      try simp only [Act.put, List.setIfInBounds_toArray, List.set_cons_zero, List.set_cons_succ, List.getElem_toArray, List.getElem_cons_zero, List.getElem_cons_succ]
      clear he kk
      refine wpAnyL_ready (rs := [16]) (by kernel_rfl) (by simp) ?_
      refine AllReadyL.cons rfl (fun K hK => ?_) AllReadyL.nil
      refine stepL_callN 55 #[.tmp 27, .tmp 42] #[40, 40] (by rfl) (by rfl) #[.agg #[.int .i64 S.v.1, .int .i64 S.v.2], .agg #[.int .i64 (El.ml V (El.ml (A ri) (B ci))).v.1, .int .i64 (El.ml V (El.ml (A ri) (B ci))).v.2]] (by simp only [List.map_toArray, List.map_cons, List.map_nil] <;> rfl) (run_go Tryd.func55 (by kernel_rfl) (by kernel_rfl) _ _) (sAd_el S (El.ml V (El.ml (A ri) (B ci))) _) ?_
      rintro e U4 ⟨he, kk⟩
      refine ⟨_, he, ?_⟩
      replace KW := hik (KW.out.trans kk)
      refine hK.out _ _ (SA.out _ KW.out) (fun hHeld => ?_)
      clear hK K
      try simp only [Act.put, List.setIfInBounds_toArray, List.set_cons_zero, List.set_cons_succ, List.getElem_toArray, List.getElem_cons_zero, List.getElem_cons_succ]
      clear he kk
      refine wpAnyL_ready (rs := [17]) (by kernel_rfl) (by simp) ?_
      refine AllReadyL.last rfl (by kernel_rfl) (fun K hK => ?_)
      have EN := hik (HE.out.keep KW.out)
      have g0 := EN.out.c0
      have g1 := EN.out.c1
      have f0 := EN.out.fz 0
      have f1 := EN.out.fz 1
      have ln : W2.heap.size < U4.heap.size := EN.out.lt
      simp only [List.getElem_toArray, List.getElem_cons_zero, List.getElem_cons_succ]
      go_simp
      refine hK.out _ _ ?_
      clear hK K
      try simp only [Act.put, List.setIfInBounds_toArray, List.set_cons_zero, List.set_cons_succ, List.getElem_toArray, List.getElem_cons_zero, List.getElem_cons_succ]
      clear g0 g1 f0 f1 ln
      refine wpAnyL_done (by kernel_rfl) ?_ _
      have E2 : Hid (ElB _ W2.heap.size (mte X A B (k + 1))) := hik (by rw [HST.out]; exact EN.out.set (El.ad S (El.ml V (El.ml (A ri) (B ci)))))
      have R2 := hik (ElB.other (HR.out.keep KW.out) (g := W2.heap.size) (by omega) 0 1 (.int .i64 (El.ad S (El.ml V (El.ml (A ri) (B ci)))).v.1) (.int .i64 (El.ad S (El.ml V (El.ml (A ri) (B ci)))).v.2))
      have G2 := hik (chg2_at (HG.out.trans KW.out) W2.heap.size (fun l => absurd l (by omega)) 0 1 (.int .i64 (El.ad S (El.ml V (El.ml (A ri) (B ci)))).v.1) (.int .i64 (El.ad S (El.ml V (El.ml (A ri) (B ci)))).v.2))
      have A2 := hik (RowE.other (HYA.out.keep KW.out) (g := W2.heap.size) (by omega) 0 1 (.int .i64 (El.ad S (El.ml V (El.ml (A ri) (B ci)))).v.1) (.int .i64 (El.ad S (El.ml V (El.ml (A ri) (B ci)))).v.2))
      have B2 := hik (RowE.other (HYB.out.keep KW.out) (g := W2.heap.size) (by omega) 0 1 (.int .i64 (El.ad S (El.ml V (El.ml (A ri) (B ci)))).v.1) (.int .i64 (El.ad S (El.ml V (El.ml (A ri) (B ci)))).v.2))
      generalize hE : ((U4.setCell ⟨W2.heap.size, 0, none⟩ (.int .i64 (El.ad S (El.ml V (El.ml (A ri) (B ci)))).v.1)).setCell ⟨W2.heap.size, 1, none⟩ (.int .i64 (El.ad S (El.ml V (El.ml (A ri) (B ci)))).v.2)) = W5 at E2 R2 G2 A2 B2 ⊢
      clear hE EN KW SA hHeld p0 p1 q0 q1 e0 e1 e2 s0 s1 HE HR HG HYA HYB
      go_wp2
      go_roundw
      case rel => exact ⟨k + 1, by omega, by go_num, E2, R2, G2, A2, B2⟩
      case measure => simp [intOf]; omega
    · obtain rfl : n = k := by omega
      have e0 := HE.out.c0
      have e1 := HE.out.c1
      have c0 : wi.cell? ⟨w.heap.size, 0, none⟩ = some (.int .i64 0) := HR.out.c0
      have c1 : wi.cell? ⟨w.heap.size, 1, none⟩ = some (.int .i64 0) := HR.out.c1
      have f0 := HR.out.fz 0
      have f1 := HR.out.fz 1
      go_wp2
      have u0 := (HR.out.set (mte X A B n)).c0
      have u1 := (HR.out.set (mte X A B n)).c1
      exact bodyPost_ret (v := .agg #[.int .i64 (mte X A B n).v.1, .int .i64 (mte X A B n).v.2]) (by simp [results, Tryd.results35, go_sem, u0, u1]) rfl ⟨rfl, chg2_at HG.out w.heap.size (fun l => absurd l (by omega)) 0 1 (.int .i64 (mte X A B n).v.1) (.int .i64 (mte X A B n).v.2)⟩


end Go.Proofs.YtkpohajmcngjcaaDoor
