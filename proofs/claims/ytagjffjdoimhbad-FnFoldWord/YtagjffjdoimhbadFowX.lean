/- What the program's FoldWord answers at a right word of two values or more and a right element: a contract. Conditions: these; the word can be read, its capacity is not below its length. -/
import Derived.Test.YtagjffjdoimhbadFopX
import Derived.Test.YtagjffjdoimhbadInvX
import Derived.Test.YtagjffjdoimhbadNttF
namespace Go.Proofs.Ytagjffjdoimhbad
open Go.ChangeShapes Go.WideShapes Go.ChangeAt Go.RowKit
set_option linter.unusedVariables false
set_option maxRecDepth 100000
set_option linter.unusedSimpArgs false

/-- The first k of a list, noughts behind. -/
def fdE (F : Nat → El) (k i : Nat) : El := if i < k then F i else El.zr
theorem fdE_step (F : Nat → El) (k i : Nat) : upE (fdE F k) k (F k) i = fdE F (k + 1) i := by
  unfold upE fdE
  by_cases e : i = k
  · subst e; rw [if_pos rfl, if_pos (by omega)]
  · rw [if_neg e]
    by_cases h : i < k
    · rw [if_pos h, if_pos (by omega)]
    · rw [if_neg h, if_neg (by omega)]

set_option maxHeartbeats 4000000 in
theorem fow_any {m : Nat} (hm : m + 1 ≤ 9) (c : Option Addr) (N H cap : Nat) (f g : Nat → Int) (r : El) (w : World) (HN : Hid (N = 2 ^ (m + 1))) (hNH : N = 2 * H) (h : Hid (PairV w c N f g)) (hok : akc7 f g N = 0) (hc : N ≤ cap) (hcap : (cap : Int) ≤ 9223372036854775807) :
    Calls Try.prog 8 #[.slice c N cap, .agg #[.int .i64 r.v.1, .int .i64 r.v.2]] w fun e w' => TbC w 0 H (fwE (m + 1) H (elF f g) r) e w' := by
  have hN5 : N ≤ 512 := by rw [HN.out]; exact pow_le9 hm
  have HOK := hik hok
  obtain ⟨hokp, _⟩ := akc7_ok hok
  obtain ⟨t, ht⟩ : ∃ t, t = elF f g := ⟨_, rfl⟩
  rw [← ht]
  have HP := hik (PairE.of h.out hokp)
  rw [← ht] at HP
  have hH1 : 1 ≤ H := by
    have e := HN.out
    rw [Nat.pow_succ] at e
    have := Nat.one_le_two_pow (n := m)
    omega
  have hH256 : H ≤ 256 := by omega
  have hNN := hik hNH
  have hN0 : 0 < N := by omega
  have hN1 : ((N : Int) == 1) = false := by
    have : ¬ (N : Int) = 1 := by omega
    simpa using this
  clear hok hokp ht hNH
  obtain ⟨xb, xo, ec, hxb, _, _⟩ := PairE.at_ HP.out hN0
  subst ec
  obtain ⟨F, hF⟩ : ∃ F, F = fwE (m + 1) H t r := ⟨_, rfl⟩
  rw [← hF]
  obtain ⟨R, hR⟩ : ∃ R, R = El.rtE (m + 1) := ⟨_, rfl⟩
  have HIR := hik (fun (w : World) => inverseRoot_any hm N HN w)
  have HRN := hik (show R ≠ El.zr by rw [hR]; exact (El.rtE_ok (show m + 1 ≤ 24 by omega)).ne)
  have HFK := hik (show ∀ k, El.fpr (t k) (t (k + H)) r (El.pwE R k) = F k from fun k => by rw [hF, hR]; rfl)
  rw [← hR] at HIR
  clear hF hR
  obtain ⟨J, hJ⟩ : ∃ J, J = El.inv R := ⟨_, rfl⟩
  have HFP := hik (fun (a b : El) (k : Nat) (w : World) => (show Calls Try.prog 23 #[.agg #[.int .i64 a.v.1, .int .i64 a.v.2], .agg #[.int .i64 b.v.1, .int .i64 b.v.2], .agg #[.int .i64 r.v.1, .int .i64 r.v.2], .agg #[.int .i64 (El.pwE J k).v.1, .int .i64 (El.pwE J k).v.2]] w fun e w' => e = .returned (.agg #[.int .i64 (El.fpr a b r (El.pwE R k)).v.1, .int .i64 (El.fpr a b r (El.pwE R k)).v.2]) ∧ Chg nob w w' by rw [hJ, inv_pw HRN.out]; exact fpr_any a b r (El.pwE R k) w))
  rw [← hJ] at HIR
  clear hJ HRN
  obtain ⟨i0, hi, hz0, hz1, hz2⟩ := info_parts infoExt
  have HI := hik hi
  have HZ0 := hik hz0
  have HZ1 := hik hz1
  have hb16 : i0.bytes * H ≤ 281474976710656 := by rw [hz2]; omega
  clear hi hz0 hz1 hz2
  have X0 := hik (ElB.new w r)
  have G0 := hik ((Chg.refl nob w).alloc (.cells #[.int .i64 r.v.1, .int .i64 r.v.2] 28))
  have hre := eok_el r
  go_enter Try.func8, Try.ntmps8
  go_wp2_with fail
  generalize hE : w.alloc (.cells #[.int .i64 r.v.1, .int .i64 r.v.2] 28) = W0 at X0 G0 ⊢
  clear hE
  refine (wordCode_any (some ⟨xb, xo, none⟩) N cap f g _ (hik (h.out.keep G0.out)) (by omega)).mono ?_
  rintro e W1 ⟨rfl, k1⟩
  rw [HOK.out]
  have X1 := hik (X0.out.keep k1)
  have G1 := hik (G0.out.trans k1)
  clear k1 X0 G0
  have r0 := X1.out.c0
  have r1 := X1.out.c1
  go_wp2_with fail
  refine (extOK_any r.v.1 r.v.2 _).mono ?_
  rintro e W2 ⟨he, k2⟩
  rw [hre] at he
  subst he
  have X2 := hik (X1.out.keep k2)
  have G2 := hik (G1.out.trans k2)
  clear k2 X1 G1 r0 r1
  go_wp2_with fail
  refine (halves_any xb xo N cap H _ hNN.out (by omega) hc hcap).mono ?_
  rintro e W3 ⟨rfl, k3⟩
  have X3 := hik (X2.out.keep k3)
  have G3 := hik (G2.out.trans k3)
  clear k3 X2 G2
  obtain ⟨xf, hxf⟩ : ∃ xf, xf = xo + H * 2 := ⟨_, rfl⟩
  rw [← hxf]
  have HXF := hik hxf
  clear hxf
  go_wp2_with (at_make; refine wpList_make_pairs _ rfl (.tmp 30) (.tmp 30) 24 rfl 28 i0 Try.underlying24 HI.out HZ0.out HZ1.out .i64 .i64 _ _ H rfl rfl rfl rfl hb16 (by omega) ?_)
  intro W4 hr4 hk4
  have R4 := hik (show RowE W4 W3.heap.size H (fdE F 0) from World.rowIs.congr hr4 (fun i _ => by unfold pf cA cB fdE; simp only [Nat.not_lt_zero, if_false]; split <;> rfl))
  have X4 := hik (X3.out.keep hk4)
  have G4 := hik (G3.out.trans hk4)
  have h3s := G3.out.size
  have hx3 : w.heap.size < W3.heap.size := X3.out.lt
  clear hr4 hk4 hb16 X3 G3
  go_wp2_with fail
  refine (HIR.out _).mono ?_
  rintro e W5 ⟨rfl, k5⟩
  have kA := hik (k5.alloc (.cells #[.int .i64 J.v.1, .int .i64 J.v.2] 28))
  have J5 := hik (ElB.new W5 J)
  have R5 := hik (RowE.keep R4.out kA.out)
  have X5 := hik (X4.out.keep kA.out)
  have G5 := hik (G4.out.trans kA.out)
  have hl5 : W3.heap.size < W5.heap.size := RowE.lt (RowE.keep R4.out k5)
  clear k5 kA R4 X4 G4
  go_upto_region 11 with fail
  generalize hE : W5.alloc (.cells #[.int .i64 J.v.1, .int .i64 J.v.2] 28) = W6 at J5 R5 X5 G5 ⊢
  have hl6 : W5.heap.size < W6.heap.size := J5.out.lt
  clear hE
  have kB := hik ((Chg.refl nob W6).alloc (.cells #[.int .i64 1, .int .i64 0] 28))
  have V7 := hik (show ElB (W6.alloc (.cells #[.int .i64 1, .int .i64 0] 28)) W6.heap.size (El.pwE J 0) from ElB.new W6 El.on)
  have J7 := hik (J5.out.keep kB.out)
  have R7 := hik (RowE.keep R5.out kB.out)
  have X7 := hik (X5.out.keep kB.out)
  have G7 := hik (G5.out.trans kB.out)
  clear kB J5 R5 X5 G5
  go_wp2
  go_loopw [38] (fun i W => ∃ k : Nat, k ≤ H ∧ i = .int .i64 k ∧ Hid (RowE W W3.heap.size H (fdE F k)) ∧ Hid (ElB W W6.heap.size (El.pwE J k)) ∧ Hid (ElB W W5.heap.size J) ∧ Hid (ElB W w.heap.size r) ∧ Hid (Chg nob w W)) (fun i _ => H - (intOf i).toNat)
  case atStart => exact ⟨0, Nat.zero_le _, rfl, R7, V7, J7, X7, G7⟩
  case round =>
    clear R7 V7 J7 X7 G7
    obtain ⟨k, hk, rfl, RI, VI, JI, XI, GI⟩ := hrel
    rename World => wi
    by_cases hlt : k < H
    · have hk1 : (k : Int) < (H : Int) := by omega
      have hk0 : (0 : Int) ≤ (k : Int) := by omega
      have PI := hik (HP.out.keep GI.out)
      have p0 : wi.cell? ⟨xb, xo + k * 2, none⟩ = some (.int .i64 (t k).v.1) := PairE.c0 PI.out (by have := hNN.out; omega)
      have p1 : wi.cell? ⟨xb, xo + k * 2 + 1, none⟩ = some (.int .i64 (t k).v.2) := PairE.c1 PI.out (by have := hNN.out; omega)
      have q0 : wi.cell? ⟨xb, xf + k * 2, none⟩ = some (.int .i64 (t (k + H)).v.1) := by rw [show xf + k * 2 = xo + (k + H) * 2 by have := HXF.out; omega]; exact PairE.c0 PI.out (by have := hNN.out; omega)
      have q1 : wi.cell? ⟨xb, xf + k * 2 + 1, none⟩ = some (.int .i64 (t (k + H)).v.2) := by rw [show xf + k * 2 + 1 = xo + (k + H) * 2 + 1 by have := HXF.out; omega]; exact PairE.c1 PI.out (by have := hNN.out; omega)
      have r0 := XI.out.c0
      have r1 := XI.out.c1
      have v0 := VI.out.c0
      have v1 := VI.out.c1
      have hvl : W6.heap.size < wi.heap.size := VI.out.lt
      go_wp2
      have KW := hik ((Chg.refl nob wi).drew1)
      have SA := hik (fun (WW : World) (kW : Chg nob wi WW) => (show (WW.cell? ⟨xb, xo + k * 2, none⟩ = some (.int .i64 (t k).v.1) ∧ WW.cell? ⟨xb, xo + k * 2 + 1, none⟩ = some (.int .i64 (t k).v.2) ∧ WW.cell? ⟨xb, xf + k * 2, none⟩ = some (.int .i64 (t (k + H)).v.1) ∧ WW.cell? ⟨xb, xf + k * 2 + 1, none⟩ = some (.int .i64 (t (k + H)).v.2) ∧ WW.cell? ⟨w.heap.size, 0, none⟩ = some (.int .i64 r.v.1) ∧ WW.cell? ⟨w.heap.size, 1, none⟩ = some (.int .i64 r.v.2) ∧ WW.cell? ⟨W6.heap.size, 0, none⟩ = some (.int .i64 (El.pwE J k).v.1) ∧ WW.cell? ⟨W6.heap.size, 1, none⟩ = some (.int .i64 (El.pwE J k).v.2)) from ⟨kW.see p0, kW.see p1, kW.see q0, kW.see q1, kW.see r0, kW.see r1, kW.see v0, kW.see v1⟩))
      refine wp_regionL (L := 14) (S := fun w' => w'.cell? ⟨xb, xo + k * 2, none⟩ = some (.int .i64 (t k).v.1) ∧ w'.cell? ⟨xb, xo + k * 2 + 1, none⟩ = some (.int .i64 (t k).v.2) ∧ w'.cell? ⟨xb, xf + k * 2, none⟩ = some (.int .i64 (t (k + H)).v.1) ∧ w'.cell? ⟨xb, xf + k * 2 + 1, none⟩ = some (.int .i64 (t (k + H)).v.2) ∧ w'.cell? ⟨w.heap.size, 0, none⟩ = some (.int .i64 r.v.1) ∧ w'.cell? ⟨w.heap.size, 1, none⟩ = some (.int .i64 r.v.2) ∧ w'.cell? ⟨W6.heap.size, 0, none⟩ = some (.int .i64 (El.pwE J k).v.1) ∧ w'.cell? ⟨W6.heap.size, 1, none⟩ = some (.int .i64 (El.pwE J k).v.2)) (by kernel_rfl) ⟨p0, p1, q0, q1, r0, r1, v0, v1⟩ (fun hHeld => ?_)
      refine wpAnyL_take (i := 0) (v := ?_) rfl (by kernel_rfl) (by kernel_rfl) (by kernel_rfl) (fun _ _ _ h => h) (by rfl) (by kernel_rfl) (by kernel_rfl) (Or.inl ⟨by rfl, ?_⟩) (by assumption) ?_
      rotate_left 1
      · (intro w' hSw; (try dsimp only at hSw); go_simp; try with_reducible rfl)
      try simp only [Act.put, List.setIfInBounds_toArray, List.set_cons_zero, List.set_cons_succ, List.getElem_toArray, List.getElem_cons_zero, List.getElem_cons_succ]
      refine wpAnyL_take (i := 1) (v := ?_) rfl (by kernel_rfl) (by kernel_rfl) (by kernel_rfl) (fun _ _ _ h => h) (by rfl) (by kernel_rfl) (by kernel_rfl) (Or.inl ⟨by rfl, ?_⟩) (by assumption) ?_
      rotate_left 1
      · (intro w' hSw; (try dsimp only at hSw); go_simp; try with_reducible rfl)
      try simp only [Act.put, List.setIfInBounds_toArray, List.set_cons_zero, List.set_cons_succ, List.getElem_toArray, List.getElem_cons_zero, List.getElem_cons_succ]
      refine wpAnyL_take (i := 2) (v := ?_) rfl (by kernel_rfl) (by kernel_rfl) (by kernel_rfl) (fun _ _ _ h => h) (by rfl) (by kernel_rfl) (by kernel_rfl) (Or.inl ⟨by rfl, ?_⟩) (by assumption) ?_
      rotate_left 1
      · (intro w' hSw; (try dsimp only at hSw); go_simp; try with_reducible rfl)
      try simp only [Act.put, List.setIfInBounds_toArray, List.set_cons_zero, List.set_cons_succ, List.getElem_toArray, List.getElem_cons_zero, List.getElem_cons_succ]
      refine wpAnyL_take (i := 3) (v := ?_) rfl (by kernel_rfl) (by kernel_rfl) (by kernel_rfl) (fun _ _ _ h => h) (by rfl) (by kernel_rfl) (by kernel_rfl) (Or.inl ⟨by rfl, ?_⟩) (by assumption) ?_
      rotate_left 1
      · (intro w' hSw; (try dsimp only at hSw); go_simp; try with_reducible rfl)
      try simp only [Act.put, List.setIfInBounds_toArray, List.set_cons_zero, List.set_cons_succ, List.getElem_toArray, List.getElem_cons_zero, List.getElem_cons_succ]
      refine wpAnyL_take (i := 4) (v := ?_) rfl (by kernel_rfl) (by kernel_rfl) (by kernel_rfl) (fun _ _ _ h => h) (by rfl) (by kernel_rfl) (by kernel_rfl) (Or.inl ⟨by rfl, ?_⟩) (by assumption) ?_
      rotate_left 1
      · (intro w' hSw; (try dsimp only at hSw); go_simp; try with_reducible rfl)
      try simp only [Act.put, List.setIfInBounds_toArray, List.set_cons_zero, List.set_cons_succ, List.getElem_toArray, List.getElem_cons_zero, List.getElem_cons_succ]
      refine wpAnyL_take (i := 5) (v := ?_) rfl (by kernel_rfl) (by kernel_rfl) (by kernel_rfl) (fun _ _ _ h => h) (by rfl) (by kernel_rfl) (by kernel_rfl) (Or.inl ⟨by rfl, ?_⟩) (by assumption) ?_
      rotate_left 1
      · (intro w' hSw; (try dsimp only at hSw); go_simp; try with_reducible rfl)
      try simp only [Act.put, List.setIfInBounds_toArray, List.set_cons_zero, List.set_cons_succ, List.getElem_toArray, List.getElem_cons_zero, List.getElem_cons_succ]
      refine wpAnyL_take (i := 6) (v := ?_) rfl (by kernel_rfl) (by kernel_rfl) (by kernel_rfl) (fun _ _ _ h => h) (by rfl) (by kernel_rfl) (by kernel_rfl) (Or.inl ⟨by rfl, ?_⟩) (by assumption) ?_
      rotate_left 1
      · (intro w' hSw; (try dsimp only at hSw); go_simp; try with_reducible rfl)
      try simp only [Act.put, List.setIfInBounds_toArray, List.set_cons_zero, List.set_cons_succ, List.getElem_toArray, List.getElem_cons_zero, List.getElem_cons_succ]
      refine wpAnyL_take (i := 7) (v := ?_) rfl (by kernel_rfl) (by kernel_rfl) (by kernel_rfl) (fun _ _ _ h => h) (by rfl) (by kernel_rfl) (by kernel_rfl) (Or.inl ⟨by rfl, ?_⟩) (by assumption) ?_
      rotate_left 1
      · (intro w' hSw; (try dsimp only at hSw); go_simp; try with_reducible rfl)
      try simp only [Act.put, List.setIfInBounds_toArray, List.set_cons_zero, List.set_cons_succ, List.getElem_toArray, List.getElem_cons_zero, List.getElem_cons_succ]
      refine wpAnyL_take (i := 8) (v := ?_) rfl (by kernel_rfl) (by kernel_rfl) (by kernel_rfl) (fun _ _ _ h => h) (by rfl) (by kernel_rfl) (by kernel_rfl) (Or.inl ⟨by rfl, ?_⟩) (by assumption) ?_
      rotate_left 1
      · (intro w' hSw; (try dsimp only at hSw); go_simp; try with_reducible rfl)
      try simp only [Act.put, List.setIfInBounds_toArray, List.set_cons_zero, List.set_cons_succ, List.getElem_toArray, List.getElem_cons_zero, List.getElem_cons_succ]
      refine wpAnyL_take (i := 9) (v := ?_) rfl (by kernel_rfl) (by kernel_rfl) (by kernel_rfl) (fun _ _ _ h => h) (by rfl) (by kernel_rfl) (by kernel_rfl) (Or.inl ⟨by rfl, ?_⟩) (by assumption) ?_
      rotate_left 1
      · (intro w' hSw; (try dsimp only at hSw); go_simp; try with_reducible rfl)
      try simp only [Act.put, List.setIfInBounds_toArray, List.set_cons_zero, List.set_cons_succ, List.getElem_toArray, List.getElem_cons_zero, List.getElem_cons_succ]
      refine wpAnyL_take (i := 10) (v := ?_) rfl (by kernel_rfl) (by kernel_rfl) (by kernel_rfl) (fun _ _ _ h => h) (by rfl) (by kernel_rfl) (by kernel_rfl) (Or.inl ⟨by rfl, ?_⟩) (by assumption) ?_
      rotate_left 1
      · (intro w' hSw; (try dsimp only at hSw); go_simp; try with_reducible rfl)
      try simp only [Act.put, List.setIfInBounds_toArray, List.set_cons_zero, List.set_cons_succ, List.getElem_toArray, List.getElem_cons_zero, List.getElem_cons_succ]
      refine wpAnyL_take (i := 11) (v := ?_) rfl (by kernel_rfl) (by kernel_rfl) (by kernel_rfl) (fun _ _ _ h => h) (by rfl) (by kernel_rfl) (by kernel_rfl) (Or.inl ⟨by rfl, ?_⟩) (by assumption) ?_
      rotate_left 1
      · (intro w' hSw; (try dsimp only at hSw); go_simp; try with_reducible rfl)
      try simp only [Act.put, List.setIfInBounds_toArray, List.set_cons_zero, List.set_cons_succ, List.getElem_toArray, List.getElem_cons_zero, List.getElem_cons_succ]
      refine wpAnyL_ready (rs := [12]) (by kernel_rfl) (by simp) ?_
      refine AllReadyL.cons rfl (fun K hK => ?_) AllReadyL.nil
      refine stepL_callN 23 #[.tmp 46, .tmp 50, .tmp 51, .tmp 52] #[28, 28, 28, 28] (by rfl) (by rfl) #[.agg #[.int .i64 (t k).v.1, .int .i64 (t k).v.2], .agg #[.int .i64 (t (k + H)).v.1, .int .i64 (t (k + H)).v.2], .agg #[.int .i64 r.v.1, .int .i64 r.v.2], .agg #[.int .i64 (El.pwE J k).v.1, .int .i64 (El.pwE J k).v.2]] (by simp only [List.map_toArray, List.map_cons, List.map_nil] <;> rfl) (run_go Try.func23 (by kernel_rfl) (by kernel_rfl) _ _) (HFP.out (t k) (t (k + H)) k _) ?_
      rintro e U1 ⟨he, kk⟩
      rw [HFK.out k] at he
      refine ⟨_, he, ?_⟩
      replace KW := hik (KW.out.trans kk)
      refine hK.out _ _ (SA.out _ KW.out) (fun hHeld => ?_)
      clear hK K
      try simp only [Act.put, List.setIfInBounds_toArray, List.set_cons_zero, List.set_cons_succ, List.getElem_toArray, List.getElem_cons_zero, List.getElem_cons_succ]
      clear he kk
      refine wpAnyL_take (i := 13) (v := ?_) rfl (by kernel_rfl) (by kernel_rfl) (by kernel_rfl) (fun _ _ _ h => h) (by rfl) (by kernel_rfl) (by kernel_rfl) (Or.inl ⟨by rfl, ?_⟩) (by assumption) ?_
      rotate_left 1
      · (intro w' hSw; (try dsimp only at hSw); go_simp; try with_reducible rfl)
      try simp only [Act.put, List.setIfInBounds_toArray, List.set_cons_zero, List.set_cons_succ, List.getElem_toArray, List.getElem_cons_zero, List.getElem_cons_succ]
      refine wpAnyL_ready (rs := [14]) (by kernel_rfl) (by simp) ?_
      refine AllReadyL.last rfl (by kernel_rfl) (fun K hK => ?_)
      have RN := hik (RowE.keep RI.out KW.out)
      have g0 := RowE.c0 RN.out hlt
      have g1 := RowE.c1 RN.out hlt
      have f0 := World.rowIs.frozen RN.out (k * 2)
      have f1 := World.rowIs.frozen RN.out (k * 2 + 1)
      have ln : W3.heap.size < U1.heap.size := RowE.lt RN.out
      simp only [List.getElem_toArray, List.getElem_cons_zero, List.getElem_cons_succ]
      go_simp
      refine hK.out _ _ ?_
      clear hK K
      try simp only [Act.put, List.setIfInBounds_toArray, List.set_cons_zero, List.set_cons_succ, List.getElem_toArray, List.getElem_cons_zero, List.getElem_cons_succ]
      clear g0 g1 f0 f1 ln
      refine wpAnyL_done (by kernel_rfl) ?_ _
      have R8 := hik (RowE.congr (u := fdE F (k + 1)) (RowE.set RN.out k (F k)) (fun i _ => fdE_step F k i))
      have V8 := hik ((VI.out.keep KW.out).other (g := W3.heap.size) (by omega) (k * 2) (k * 2 + 1) (.int .i64 (F k).v.1) (.int .i64 (F k).v.2))
      have J8 := hik ((JI.out.keep KW.out).other (g := W3.heap.size) (by omega) (k * 2) (k * 2 + 1) (.int .i64 (F k).v.1) (.int .i64 (F k).v.2))
      have X8 := hik ((XI.out.keep KW.out).other (g := W3.heap.size) (by omega) (k * 2) (k * 2 + 1) (.int .i64 (F k).v.1) (.int .i64 (F k).v.2))
      have G8 := hik (chg2_at (GI.out.trans KW.out) W3.heap.size (fun l => absurd l (by omega)) (k * 2) (k * 2 + 1) (.int .i64 (F k).v.1) (.int .i64 (F k).v.2))
      generalize hE : ((U1.setCell ⟨W3.heap.size, k * 2, none⟩ (.int .i64 (F k).v.1)).setCell ⟨W3.heap.size, k * 2 + 1, none⟩ (.int .i64 (F k).v.2)) = W8 at R8 V8 J8 X8 G8 ⊢
      clear hE RN KW SA hHeld p0 p1 q0 q1 r0 r1 v0 v1 PI RI VI JI XI GI
      have v0 := V8.out.c0
      have v1 := V8.out.c1
      have j0 := J8.out.c0
      have j1 := J8.out.c1
      have hv8 : W6.heap.size < W8.heap.size := V8.out.lt
      go_wp2_with fail
      refine (ml_el (El.pwE J k) J _).mono ?_
      rintro e W9 ⟨rfl, kk⟩
      have R9 := hik (RowE.keep R8.out kk)
      have V9 := hik (V8.out.keep kk)
      have J9 := hik (J8.out.keep kk)
      have X9 := hik (X8.out.keep kk)
      have G9 := hik (G8.out.trans kk)
      clear kk R8 V8 J8 X8 G8 v0 v1 j0 j1
      have f0 := V9.out.fz 0
      have f1 := V9.out.fz 1
      have v0 := V9.out.c0
      have v1 := V9.out.c1
      have RZ := hik (RowE.other R9.out (g := W6.heap.size) (by omega) 0 1 (.int .i64 (El.ml (El.pwE J k) J).v.1) (.int .i64 (El.ml (El.pwE J k) J).v.2))
      have JZ := hik (J9.out.other (g := W6.heap.size) (by omega) 0 1 (.int .i64 (El.ml (El.pwE J k) J).v.1) (.int .i64 (El.ml (El.pwE J k) J).v.2))
      have XZ := hik (X9.out.other (g := W6.heap.size) (by omega) 0 1 (.int .i64 (El.ml (El.pwE J k) J).v.1) (.int .i64 (El.ml (El.pwE J k) J).v.2))
      have VZ := hik (V9.out.set (El.ml (El.pwE J k) J))
      have GZ := hik (chg2_at G9.out W6.heap.size (fun l => absurd l (by omega)) 0 1 (.int .i64 (El.ml (El.pwE J k) J).v.1) (.int .i64 (El.ml (El.pwE J k) J).v.2))
      go_wp2
      go_roundw
      case rel => exact ⟨k + 1, by omega, by go_num, RZ, VZ, JZ, XZ, GZ⟩
      case measure => simp [intOf]; omega
    · obtain rfl : k = H := by omega
      go_wp2
      go_ret2
      exact TbC.some rfl rfl (Nat.le_refl _) (by omega) (OwnE.congr (RowE.own RI.out h3s) (fun i hi => by unfold cA cB fdE; rw [if_pos hi]; exact ⟨rfl, rfl⟩)) GI.out

end Go.Proofs.Ytagjffjdoimhbad
