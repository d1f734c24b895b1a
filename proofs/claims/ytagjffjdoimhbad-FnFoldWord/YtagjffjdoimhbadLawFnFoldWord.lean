/- For all codes (slices of bytes): the law FnFoldWord holds: a folded word is that of the coefficients whose even ones have r times the odd ones beside them; each value hangs on two. No condition. -/
import Derived.Test.YtagjffjdoimhbadRows
import Derived.WalkKit
import Derived.ProofKit
import Derived.OpenShut
import Derived.Test.YtagjffjdoimhbadWrdK
import Derived.Test.YtagjffjdoimhbadBdq
import Derived.Test.YtagjffjdoimhbadBdb
import Derived.Test.YtagjffjdoimhbadStepL
import Derived.Test.YtagjffjdoimhbadLawQ
import Derived.Test.YtagjffjdoimhbadFopL
import Derived.ShutString
import Derived.ChangeOld
import Derived.Below
namespace Go.Proofs.Ytagjffjdoimhbad.fnFoldWord
open Go.ChangeShapes Go.WideShapes Go.ChangeAt Go.RowKit
open Go.ChangeMaps (open_string shut_string)
set_option linter.unusedVariables false

theorem own : ownKnob Try.prog.godebug = none := by kernel_rfl
theorem laidOut : laidOutB Try.prog = true := by kernel_rfl

/-- WHAT THE WALK IS TOLD OF A SLICE OF INTEGERS THAT CAME IN: it is nil; or it leads to a row of 'cap' cells, the numbers 'zs' (the first 'len' are its elements, the rest its spare room), each fitting its kind. -/
def IsRow (k : IntKind) (w : World) (a : Option Addr) (len cap : Nat) (zs : List Int) : Prop :=
  (a = none ∧ len = 0 ∧ cap = 0 ∧ zs = []) ∨
  ∃ x, a = some x ∧ len ≤ cap ∧ cap ≤ maxLen ∧ zs.length = cap ∧ (∀ i, i < zs.length → w.cell? (x.add i) = some (.int k (zs.getD i 0))) ∧ ∀ n ∈ zs, (Lit.int k n).wf = true

set_option linter.unusedSimpArgs false
set_option linter.unusedVariables false
set_option maxRecDepth 100000 in
set_option maxHeartbeats 4000000 in
theorem walk (a0 : Option Addr) (len0 cap0 : Nat) (z0 : List Int) (a1 : Option Addr) (len1 cap1 : Nat) (z1 : List Int) (w : World) (w0 : IsRow .u8 w a0 len0 cap0 z0) (w1 : IsRow .u8 w a1 len1 cap1 z1) :
    Calls Try.prog 3 #[.slice a0 len0 cap0, .slice a1 len1 cap1] w fun e w' => e = .returned (.bool true) ∧ Below w.heap.size w w' := by
  obtain ⟨hB0, hl0⟩ := bytes_of_row w0
  obtain ⟨hB1, hl1⟩ := bytes_of_row w1
  have HB0 := hide hB0
  have HB1 := hide hB1
  clear w0 w1 hB0 hB1
  by_cases hm : 1048576 < len0
  · have hm' : 1048576 < (len0 : Int) := by omega
    go_enter Try.func3, Try.ntmps3
    go_wp2_with fail
    go_ret
    exact ⟨rfl, Below.refl _ _⟩
  by_cases hn : 1048576 < len1
  · have hm' : ¬ 1048576 < (len0 : Int) := by omega
    have hn' : 1048576 < (len1 : Int) := by omega
    go_enter Try.func3, Try.ntmps3
    go_wp2_with fail
    go_ret
    exact ⟨rfl, Below.refl _ _⟩
  have hm' : ¬ 1048576 < (len0 : Int) := by omega
  have hn' : ¬ 1048576 < (len1 : Int) := by omega
  obtain ⟨i0, hi, hz0, hz1, hz2⟩ := info_parts infoExt
  have HI := hide hi
  have HZ0 := hide hz0
  have HZ1 := hide hz1
  have HZ2 := hide hz2
  clear hi hz0 hz1 hz2
  go_enter Try.func3, Try.ntmps3
  go_wp2_with fail
  refine (at_pl a1 len1 cap1 0 3 _ HB1.out hl1 (by omega) (by omega) (by omega)).mono ?_
  rintro e W1 ⟨m, rfl, hm3, k1⟩
  have G1 := hide k1
  clear k1
  obtain ⟨n, hn⟩ : ∃ n, n = m + 1 := ⟨_, rfl⟩
  have hwn : IntKind.i64.wrap (1 + (m : Int)) = (n : Int) := by rw [IntKind.wrap_i64]; omega
  have HNM := hide hn
  have hn3 : n ≤ 3 := by omega
  clear hn
  go_wp2_with fail
  refine (at_pl a1 len1 cap1 1 3 _ (HB1.out.below G1.out.toBelow) hl1 (by omega) (by omega) (by omega)).mono ?_
  rintro e W1' ⟨j, rfl, hj3, k1⟩
  replace G1 := hide (G1.out.trans k1)
  clear k1
  obtain ⟨q, hq⟩ : ∃ q, q = 1 + j := ⟨_, rfl⟩
  have hwq : IntKind.i64.wrap (1 + (j : Int)) = (q : Int) := by rw [IntKind.wrap_i64]; omega
  have hq3 : q ≤ 3 := by omega
  have hq1 : 1 ≤ q := by omega
  clear hq
  obtain ⟨M, hM⟩ : ∃ M, M = 2 ^ n := ⟨_, rfl⟩
  have HM := hide hM
  have hM8 : M ≤ 8 := by rw [hM]; exact Nat.le_trans (Nat.pow_le_pow_right (by omega) hn3) (by decide)
  have hM1 : 1 ≤ M := by rw [hM]; exact Nat.one_le_two_pow
  have hpw : (2 : Int) ^ n = (M : Int) := by rw [hM]; simp
  have hn0 : (0 : Int) ≤ (n : Int) := by omega
  obtain ⟨Q, hQ⟩ : ∃ Q, Q = 2 ^ m := ⟨_, rfl⟩
  have HMQ := hide (show M = 2 * Q by rw [hM, HNM.out, Nat.pow_succ, hQ, Nat.mul_comm])
  have HQ := hide hQ
  obtain ⟨L, hL⟩ : ∃ L, L = m + q := ⟨_, rfl⟩
  have HL := hide hL
  have hL5 : L ≤ 5 := by omega
  obtain ⟨H, hH⟩ : ∃ H, H = 2 ^ L := ⟨_, rfl⟩
  have HH := hide hH
  obtain ⟨Z, hZ⟩ : ∃ Z, Z = M * 2 ^ q := ⟨_, rfl⟩
  have HZP := hide (show Z = 2 ^ (L + 1) by rw [hZ, hM, ← Nat.pow_add, HNM.out, hL]; congr 1; omega)
  have HZ := hide hZ
  have HZH := hide (show Z = 2 * H by rw [HZP.out, Nat.pow_succ, hH, Nat.mul_comm])
  have hH32 : H ≤ 32 := by rw [hH]; exact Nat.le_trans (Nat.pow_le_pow_right (by omega) hL5) (by decide)
  have hH1 : 1 ≤ H := by rw [hH]; exact Nat.one_le_two_pow
  have hZ64 : Z ≤ 64 := by have := HZH.out; omega
  have hZ1 : 1 ≤ Z := by have := HZH.out; omega
  have HMZ := hide (show M < Z by
    have h2 : 2 ≤ 2 ^ q := Nat.le_trans (show 2 ≤ 2 ^ 1 by decide) (Nat.pow_le_pow_right (by omega) hq1)
    have h3 : M * 2 ≤ M * 2 ^ q := Nat.mul_le_mul_left M h2
    rw [← hZ] at h3
    omega)
  have hsh : IntKind.i64.wrap ((M : Int) * 2 ^ q) = (Z : Int) := by rw [hZ]; exact shl9 (by omega) (by omega)
  have hq0 : (0 : Int) ≤ (q : Int) := by omega
  have hwqu : IntKind.u64.wrap (q : Int) = (q : Int) := by rw [IntKind.wrap_u64]; omega
  clear hM hQ hL hH hZ
  go_wp2_with fail
  refine (extsOf_any a0 len0 cap0 M _ (HB0.out.below G1.out.toBelow) hl0 (by omega)).mono ?_
  rintro e W2 ⟨f, g, ct, capt, rfl, hP, hO, k2⟩
  obtain ⟨co, hco⟩ : ∃ co, co = elF f g := ⟨_, rfl⟩
  have T2 := hide (show PairE W2 ct M co by rw [hco]; exact PairE.of hP hO)
  have G2 := hide (G1.out.trans k2)
  clear k2 hP hO hco G1
  obtain ⟨cf, hcf⟩ : ∃ cf, cf = fitE co M zE := ⟨_, rfl⟩
  have HCF := hide hcf
  obtain ⟨V, hV⟩ : ∃ V, V = El.nt (L + 1) cf (El.rtE (L + 1)) := ⟨_, rfl⟩
  have HV := hide hV
  have QI := hide (fun (c : Option Addr) (cap : Nat) (w' : World) (h : Hid (PairE w' c M co)) => enc_el c M n q Z cap HM.out HZ.out co w' h (by omega))
  rw [show n + q = L + 1 by have := HNM.out; have := HL.out; omega, ← hcf, ← hV] at QI
  clear hcf hV
  go_wp2_with fail
  refine (extOf_any a1 len1 cap1 _ (HB1.out.below G2.out.toBelow) hl1).mono ?_
  rintro e W3 ⟨xa, xb, rfl, hxo, k3⟩
  obtain ⟨r, hxa, hxb⟩ : ∃ r : El, xa = r.v.1 ∧ xb = r.v.2 := ⟨elP xa xb, by rw [elP_v hxo], by rw [elP_v hxo]⟩
  subst hxa hxb
  have kA := hide (k3.alloc (.cells #[.int .i64 r.v.1, .int .i64 r.v.2] 28))
  have X3 := hide (ElB.new W3 r)
  have T3 := hide (T2.out.keep kA.out)
  have G3 := hide (G2.out.trans kA.out)
  clear k3 kA T2 G2 hxo
  go_wp2_with fail
  generalize hE : W3.alloc (.cells #[.int .i64 r.v.1, .int .i64 r.v.2] 28) = W3' at X3 T3 G3 ⊢
  have hl3 : W3.heap.size < W3'.heap.size := X3.out.lt
  clear hE
  refine (QI.out ct capt _ T3).mono ?_
  rintro e W4 ⟨cv, capv, rfl, hcv, hcvm, o4, k4⟩
  have V4 := hide (show PairE W4 cv Z V from OwnE.pairs o4)
  have T4 := hide (T3.out.keep k4)
  have X4 := hide (X3.out.keep k4)
  have G4 := hide (G3.out.trans k4)
  clear o4 k4 G3 T3 X3 QI
  have x0 := X4.out.c0
  have x1 := X4.out.c1
  obtain ⟨F, hF⟩ : ∃ F, F = El.nt L (El.flC cf r) (El.rtE L) := ⟨_, rfl⟩
  have HF := hide (show ∀ i, i < H → fwE (L + 1) H V r i = F i from fun i hi => by rw [hF, HV.out]; exact fold_is (by omega) HH.out r hi)
  obtain ⟨hv, hhv⟩ : ∃ hv, hv = El.flC co r := ⟨_, rfl⟩
  have HFV := hide (show F = El.nt L (fitE hv Q zE) (El.rtE L) by
    rw [hF]
    funext i
    exact El.nt_congr L (El.rtE L) (fun i _ => by rw [HCF.out, flC_fit co r HMQ.out, hhv]) i)
  have HHV := hide (show ∀ k, El.ad (co (2 * k)) (El.ml r (co (2 * k + 1))) = hv k from fun k => by rw [hhv]; rfl)
  clear hF hhv
  go_wp2_with fail
  refine (fold_el9 cv Z H L capv HZH.out HH.out V r _ V4 (by omega) hcv hcvm).mono ?_
  rintro e W5 q5
  obtain ⟨cg, capg, rfl, hcg, hcgm, o5, k5⟩ := q5.eq rfl rfl HF.out
  have F5 := hide (show PairE W5 cg H F from OwnE.pairs o5)
  have V5 := hide (V4.out.keep k5)
  have T5 := hide (T4.out.keep k5)
  have X5 := hide (X4.out.keep k5)
  have G5 := hide (G4.out.trans k5)
  clear q5 o5 k5 V4 X4 T4 G4 x0 x1
  have hl5 : W3.heap.size < W5.heap.size := X5.out.lt
  go_wp2
  go_loopw [13, 14] (fun v i W => ∃ (k p : Nat), k ≤ Q ∧ i = .int .i64 (p : Int) ∧ Hid (p = 2 * k) ∧ Hid (W.ownsRow W5.heap.size 28 2 v k ((List.range (k * 2)).map (pf (cA hv) (cB hv)))) ∧ Hid (Chg nob W5 W)) (fun _ i _ => M - (intOf i).toNat)
  case atStart => exact ⟨0, 0, Nat.zero_le _, rfl, hide rfl, hide (flNone W5 W5.heap.size 28 2 (Nat.le_refl _)), hide ((Chg.refl _ _).alloc _)⟩
  case round =>
    obtain ⟨k, p, hk, rfl, HP, HW, HG⟩ := hrel
    rename World => wi
    by_cases hlt : k < Q
    · obtain ⟨p1, hp1⟩ : ∃ p1, p1 = p + 1 := ⟨_, rfl⟩
      obtain ⟨p2, hp2⟩ : ∃ p2, p2 = p + 2 := ⟨_, rfl⟩
      have HP1 := hide hp1
      have HP2 := hide hp2
      have hpM : p < M := by have := HP.out; have := HMQ.out; omega
      have hp1M : p1 < M := by have := HP.out; have := HMQ.out; omega
      have hc0 : (p : Int) < (M : Int) := by omega
      have hc1 : (p1 : Int) < (M : Int) := by omega
      have hc2 : (0 : Int) ≤ (p : Int) := by omega
      have hc3 : (0 : Int) ≤ (p1 : Int) := by omega
      have hw1 : IntKind.i64.wrap ((p : Int) + 1) = (p1 : Int) := by rw [IntKind.wrap_i64]; omega
      have hw2 : IntKind.i64.wrap ((p : Int) + 2) = (p2 : Int) := by rw [IntKind.wrap_i64]; omega
      have hmes : M - p2 < M - p := by omega
      clear hp1 hp2
      have TI := hide (T5.out.keep HG.out)
      have XI := hide (X5.out.keep HG.out)
      obtain ⟨tb, tq, et, htb, _, _⟩ := PairE.at_ TI.out hpM
      subst et
      have u0 := PairE.c0 TI.out hpM
      have u1 := PairE.c1 TI.out hpM
      have v0 := PairE.c0 TI.out hp1M
      have v1 := PairE.c1 TI.out hp1M
      have x0 := XI.out.c0
      have x1 := XI.out.c1
      have hsz := HG.out.size
      have htl : tb < wi.heap.size := htb
      have hxl : W3.heap.size < wi.heap.size := XI.out.lt
      have HSM := hide (show El.ad (co p) (El.ml r (co p1)) = hv k by rw [← HHV.out k, HP.out, HP1.out, HP.out])
      go_upto_region 13 with fail
      go_cut [15, 16] (fun pp cc W => ∃ gg : Nat, pp = .pointer (some ⟨gg, 0, none⟩) ∧ cc = .int .i64 0 ∧ Hid (wi.heap.size ≤ gg) ∧ Hid (ElB W gg (El.ml r (co p1))) ∧ Hid (Chg nob wi W))
      case first =>
        have KW := hide ((Chg.refl nob wi).drew1)
        have SA := hide (fun (WW : World) (kW : Chg nob wi WW) => (show (WW.cell? ⟨W3.heap.size, 0, none⟩ = some (.int .i64 r.v.1) ∧ WW.cell? ⟨W3.heap.size, 1, none⟩ = some (.int .i64 r.v.2) ∧ WW.cell? ⟨tb, tq + p1 * 2, none⟩ = some (.int .i64 (co p1).v.1) ∧ WW.cell? ⟨tb, tq + p1 * 2 + 1, none⟩ = some (.int .i64 (co p1).v.2)) from ⟨kW.see x0, kW.see x1, kW.see v0, kW.see v1⟩))
        refine wp_region_held_drew (S := fun w' => w'.cell? ⟨W3.heap.size, 0, none⟩ = some (.int .i64 r.v.1) ∧ w'.cell? ⟨W3.heap.size, 1, none⟩ = some (.int .i64 r.v.2) ∧ w'.cell? ⟨tb, tq + p1 * 2, none⟩ = some (.int .i64 (co p1).v.1) ∧ w'.cell? ⟨tb, tq + p1 * 2 + 1, none⟩ = some (.int .i64 (co p1).v.2)) (by kernel_rfl) ⟨x0, x1, v0, v1⟩ (fun hHeld => ?_)
        refine wpAnyH_take (i := 0) (v := ?_) rfl (by kernel_rfl) (by kernel_rfl) (by kernel_rfl) (fun _ _ _ h => h) (Or.inl ⟨by rfl, ?_⟩) (by assumption) ?_
        rotate_left 1
        · (intro w' hSw; (try dsimp only at hSw); go_simp; try with_reducible rfl)
        try simp only [Act.put, List.setIfInBounds_toArray, List.set_cons_zero, List.set_cons_succ, List.getElem_toArray, List.getElem_cons_zero, List.getElem_cons_succ]
        refine wpAnyH_take (i := 1) (v := ?_) rfl (by kernel_rfl) (by kernel_rfl) (by kernel_rfl) (fun _ _ _ h => h) (Or.inl ⟨by rfl, ?_⟩) (by assumption) ?_
        rotate_left 1
        · (intro w' hSw; (try dsimp only at hSw); go_simp; try with_reducible rfl)
        try simp only [Act.put, List.setIfInBounds_toArray, List.set_cons_zero, List.set_cons_succ, List.getElem_toArray, List.getElem_cons_zero, List.getElem_cons_succ]
        refine wpAnyH_take (i := 2) (v := ?_) rfl (by kernel_rfl) (by kernel_rfl) (by kernel_rfl) (fun _ _ _ h => h) (Or.inl ⟨by rfl, ?_⟩) (by assumption) ?_
        rotate_left 1
        · (intro w' hSw; (try dsimp only at hSw); go_simp; try with_reducible rfl)
        try simp only [Act.put, List.setIfInBounds_toArray, List.set_cons_zero, List.set_cons_succ, List.getElem_toArray, List.getElem_cons_zero, List.getElem_cons_succ]
        refine wpAnyH_take (i := 3) (v := .int .i64 (p1 : Int)) rfl (by kernel_rfl) (by kernel_rfl) (by kernel_rfl) (fun _ _ _ h => h) (Or.inl ⟨by rfl, ?_⟩) (by assumption) ?_
        · (intro w' hSw; (try dsimp only at hSw); go_simp; first | done | exact hw1)
        try simp only [Act.put, List.setIfInBounds_toArray, List.set_cons_zero, List.set_cons_succ, List.getElem_toArray, List.getElem_cons_zero, List.getElem_cons_succ]
        refine wpAnyH_take (i := 4) (v := ?_) rfl (by kernel_rfl) (by kernel_rfl) (by kernel_rfl) (fun _ _ _ h => h) (Or.inl ⟨by rfl, ?_⟩) (by assumption) ?_
        rotate_left 1
        · (intro w' hSw; (try dsimp only at hSw); go_simp; try with_reducible rfl)
        try simp only [Act.put, List.setIfInBounds_toArray, List.set_cons_zero, List.set_cons_succ, List.getElem_toArray, List.getElem_cons_zero, List.getElem_cons_succ]
        refine wpAnyH_take (i := 5) (v := ?_) rfl (by kernel_rfl) (by kernel_rfl) (by kernel_rfl) (fun _ _ _ h => h) (Or.inl ⟨by rfl, ?_⟩) (by assumption) ?_
        rotate_left 1
        · (intro w' hSw; (try dsimp only at hSw); go_simp; try with_reducible rfl)
        try simp only [Act.put, List.setIfInBounds_toArray, List.set_cons_zero, List.set_cons_succ, List.getElem_toArray, List.getElem_cons_zero, List.getElem_cons_succ]
        refine wpAnyH_ready (rs := [6, 10]) (by kernel_rfl) (by simp) ?_
        refine AllReadyH.cons rfl (fun K hK => ?_) ?_
        · refine stepL_callN 9 #[.tmp 65, .tmp 70] #[28, 28] (by rfl) (by rfl) #[.agg #[.int .i64 r.v.1, .int .i64 r.v.2], .agg #[.int .i64 (co p1).v.1, .int .i64 (co p1).v.2]] (by simp only [List.map_toArray, List.map_cons, List.map_nil] <;> rfl) (run_go Try.func9 (by kernel_rfl) (by kernel_rfl) _ _) (exMl_el r (co p1) _) ?_
          rintro e VV1 ⟨he, kk⟩
          refine ⟨_, he, ?_⟩
          replace KW := hide (KW.out.trans kk)
          refine hK.out _ _ (SA.out _ KW.out) (fun hHeld => ?_)
          clear hK K
          try simp only [Act.put, List.setIfInBounds_toArray, List.set_cons_zero, List.set_cons_succ, List.getElem_toArray, List.getElem_cons_zero, List.getElem_cons_succ]
          clear he kk
          refine wpAnyH_take (i := 7) (v := ?_) rfl (by kernel_rfl) (by kernel_rfl) (by kernel_rfl) (fun _ _ _ h => h) (Or.inl ⟨by rfl, ?_⟩) (by assumption) ?_
          rotate_left 1
          · (intro w' hSw; (try dsimp only at hSw); go_simp; try with_reducible rfl)
          try simp only [Act.put, List.setIfInBounds_toArray, List.set_cons_zero, List.set_cons_succ, List.getElem_toArray, List.getElem_cons_zero, List.getElem_cons_succ]
          refine wpAnyH_take (i := 8) (v := ?_) rfl (by kernel_rfl) (by kernel_rfl) (by kernel_rfl) (fun _ _ _ h => h) (Or.inl ⟨by rfl, ?_⟩) (by assumption) ?_
          rotate_left 1
          · (intro w' hSw; (try dsimp only at hSw); go_simp; try with_reducible rfl)
          try simp only [Act.put, List.setIfInBounds_toArray, List.set_cons_zero, List.set_cons_succ, List.getElem_toArray, List.getElem_cons_zero, List.getElem_cons_succ]
          refine wpAnyH_take (i := 9) (v := ?_) rfl (by kernel_rfl) (by kernel_rfl) (by kernel_rfl) (fun _ _ _ h => h) (Or.inl ⟨by rfl, ?_⟩) (by assumption) ?_
          rotate_left 1
          · (intro w' hSw; (try dsimp only at hSw); go_simp; try with_reducible rfl)
          try simp only [Act.put, List.setIfInBounds_toArray, List.set_cons_zero, List.set_cons_succ, List.getElem_toArray, List.getElem_cons_zero, List.getElem_cons_succ]
          refine wpAnyH_ready (rs := [10]) (by kernel_rfl) (by simp) ?_
          refine AllReadyH.cons rfl (fun K hK => ?_) AllReadyH.nil
          simp only [List.getElem_toArray, List.getElem_cons_zero, List.getElem_cons_succ]
          go_simp
          have E7 : Hid (ElB (World.alloc VV1 (.cells #[.int .i64 0, .int .i64 0] 28)) VV1.heap.size El.zr) := hide (ElB.zero VV1)
          have lq : wi.heap.size ≤ VV1.heap.size := KW.out.size
          replace KW : Hid (Chg nob wi (World.alloc VV1 (.cells #[.int .i64 0, .int .i64 0] 28))) := hide (KW.out.alloc _)
          generalize hUA : (World.alloc VV1 (.cells #[.int .i64 0, .int .i64 0] 28)) = UA at E7 KW ⊢
          clear hUA
          obtain ⟨gA, hgA⟩ : ∃ g, g = VV1.heap.size := ⟨_, rfl⟩
          have lA : wi.heap.size ≤ gA := by rw [hgA]; exact lq
          clear lq
          rw [← hgA] at E7 ⊢
          clear hgA
          refine hK.out _ _ (SA.out _ KW.out) (fun hHeld => ?_)
          clear hK K
          try simp only [Act.put, List.setIfInBounds_toArray, List.set_cons_zero, List.set_cons_succ, List.getElem_toArray, List.getElem_cons_zero, List.getElem_cons_succ]
          refine wpAnyH_ready (rs := [11]) (by kernel_rfl) (by simp) ?_
          refine AllReadyH.cons rfl (fun K hK => ?_) AllReadyH.nil
          have y0 := E7.out.c0
          have y1 := E7.out.c1
          have f0 := E7.out.fz 0
          have f1 := E7.out.fz 1
          have l7 := E7.out.lt
          have SS := SA.out _ KW.out
          simp only [List.getElem_toArray, List.getElem_cons_zero, List.getElem_cons_succ]
          go_simp
          refine hK.out _ _ ⟨look_two (by omega) (SS.1) 0 1 _ _, look_two (by omega) (SS.2.1) 0 1 _ _, look_two (by omega) (SS.2.2.1) 0 1 _ _, look_two (by omega) (SS.2.2.2) 0 1 _ _⟩ (fun hHeld => ?_)
          clear hK K
          try simp only [Act.put, List.setIfInBounds_toArray, List.set_cons_zero, List.set_cons_succ, List.getElem_toArray, List.getElem_cons_zero, List.getElem_cons_succ]
          clear y0 y1 f0 f1 l7 SS
          replace E7 := hide (E7.out.set (El.ml r (co p1)))
          replace KW := hide (chg2_at KW.out gA (fun l => absurd l (by omega)) 0 1 (.int .i64 (El.ml r (co p1)).v.1) (.int .i64 (El.ml r (co p1)).v.2))
          generalize hUS : ((UA.setCell ⟨gA, 0, none⟩ (.int .i64 (El.ml r (co p1)).v.1)).setCell ⟨gA, 1, none⟩ (.int .i64 (El.ml r (co p1)).v.2)) = US at E7 KW hHeld ⊢
          clear hUS
          refine wpAnyH_take (i := 12) (v := ?_) rfl (by kernel_rfl) (by kernel_rfl) (by kernel_rfl) (fun _ _ _ h => h) (Or.inl ⟨by rfl, ?_⟩) (by assumption) ?_
          rotate_left 1
          · (intro w' hSw; (try dsimp only at hSw); go_simp; try with_reducible rfl)
          try simp only [Act.put, List.setIfInBounds_toArray, List.set_cons_zero, List.set_cons_succ, List.getElem_toArray, List.getElem_cons_zero, List.getElem_cons_succ]
          refine wpAnyH_done (by kernel_rfl) ?_ _
          go_wp2_with fail
          go_meet
          exact ⟨gA, rfl, rfl, hide lA, E7, KW⟩
        · refine AllReadyH.cons rfl (fun K hK => ?_) AllReadyH.nil
          simp only [List.getElem_toArray, List.getElem_cons_zero, List.getElem_cons_succ]
          go_simp
          have E7 : Hid (ElB (World.alloc wi (.cells #[.int .i64 0, .int .i64 0] 28)).drew wi.heap.size El.zr) := hide (ElB.keep (ElB.zero wi) (Chg.refl nob _).drew1)
          have lq : wi.heap.size ≤ wi.heap.size := Nat.le_refl _
          replace KW : Hid (Chg nob wi (World.alloc wi (.cells #[.int .i64 0, .int .i64 0] 28)).drew) := hide (((Chg.refl nob wi).alloc _).drew1)
          generalize hUA : (World.alloc wi (.cells #[.int .i64 0, .int .i64 0] 28)).drew = UA at E7 KW ⊢
          clear hUA
          obtain ⟨gA, hgA⟩ : ∃ g, g = wi.heap.size := ⟨_, rfl⟩
          have lA : wi.heap.size ≤ gA := by rw [hgA]; exact lq
          clear lq
          rw [← hgA] at E7 ⊢
          clear hgA
          refine hK.out _ _ (SA.out _ KW.out) (fun hHeld => ?_)
          clear hK K
          try simp only [Act.put, List.setIfInBounds_toArray, List.set_cons_zero, List.set_cons_succ, List.getElem_toArray, List.getElem_cons_zero, List.getElem_cons_succ]
          refine wpAnyH_ready (rs := [6]) (by kernel_rfl) (by simp) ?_
          refine AllReadyH.cons rfl (fun K hK => ?_) AllReadyH.nil
          refine stepL_callN 9 #[.tmp 65, .tmp 70] #[28, 28] (by rfl) (by rfl) #[.agg #[.int .i64 r.v.1, .int .i64 r.v.2], .agg #[.int .i64 (co p1).v.1, .int .i64 (co p1).v.2]] (by simp only [List.map_toArray, List.map_cons, List.map_nil] <;> rfl) (run_go Try.func9 (by kernel_rfl) (by kernel_rfl) _ _) (exMl_el r (co p1) _) ?_
          rintro e VV1 ⟨he, kk⟩
          replace E7 := hide (E7.out.keep kk)
          refine ⟨_, he, ?_⟩
          replace KW := hide (KW.out.trans kk)
          refine hK.out _ _ (SA.out _ KW.out) (fun hHeld => ?_)
          clear hK K
          try simp only [Act.put, List.setIfInBounds_toArray, List.set_cons_zero, List.set_cons_succ, List.getElem_toArray, List.getElem_cons_zero, List.getElem_cons_succ]
          clear he kk
          refine wpAnyH_take (i := 7) (v := ?_) rfl (by kernel_rfl) (by kernel_rfl) (by kernel_rfl) (fun _ _ _ h => h) (Or.inl ⟨by rfl, ?_⟩) (by assumption) ?_
          rotate_left 1
          · (intro w' hSw; (try dsimp only at hSw); go_simp; try with_reducible rfl)
          try simp only [Act.put, List.setIfInBounds_toArray, List.set_cons_zero, List.set_cons_succ, List.getElem_toArray, List.getElem_cons_zero, List.getElem_cons_succ]
          refine wpAnyH_take (i := 8) (v := ?_) rfl (by kernel_rfl) (by kernel_rfl) (by kernel_rfl) (fun _ _ _ h => h) (Or.inl ⟨by rfl, ?_⟩) (by assumption) ?_
          rotate_left 1
          · (intro w' hSw; (try dsimp only at hSw); go_simp; try with_reducible rfl)
          try simp only [Act.put, List.setIfInBounds_toArray, List.set_cons_zero, List.set_cons_succ, List.getElem_toArray, List.getElem_cons_zero, List.getElem_cons_succ]
          refine wpAnyH_take (i := 9) (v := ?_) rfl (by kernel_rfl) (by kernel_rfl) (by kernel_rfl) (fun _ _ _ h => h) (Or.inl ⟨by rfl, ?_⟩) (by assumption) ?_
          rotate_left 1
          · (intro w' hSw; (try dsimp only at hSw); go_simp; try with_reducible rfl)
          try simp only [Act.put, List.setIfInBounds_toArray, List.set_cons_zero, List.set_cons_succ, List.getElem_toArray, List.getElem_cons_zero, List.getElem_cons_succ]
          refine wpAnyH_ready (rs := [11]) (by kernel_rfl) (by simp) ?_
          refine AllReadyH.cons rfl (fun K hK => ?_) AllReadyH.nil
          have y0 := E7.out.c0
          have y1 := E7.out.c1
          have f0 := E7.out.fz 0
          have f1 := E7.out.fz 1
          have l7 := E7.out.lt
          have SS := SA.out _ KW.out
          simp only [List.getElem_toArray, List.getElem_cons_zero, List.getElem_cons_succ]
          go_simp
          refine hK.out _ _ ⟨look_two (by omega) (SS.1) 0 1 _ _, look_two (by omega) (SS.2.1) 0 1 _ _, look_two (by omega) (SS.2.2.1) 0 1 _ _, look_two (by omega) (SS.2.2.2) 0 1 _ _⟩ (fun hHeld => ?_)
          clear hK K
          try simp only [Act.put, List.setIfInBounds_toArray, List.set_cons_zero, List.set_cons_succ, List.getElem_toArray, List.getElem_cons_zero, List.getElem_cons_succ]
          clear y0 y1 f0 f1 l7 SS
          replace E7 := hide (E7.out.set (El.ml r (co p1)))
          replace KW := hide (chg2_at KW.out gA (fun l => absurd l (by omega)) 0 1 (.int .i64 (El.ml r (co p1)).v.1) (.int .i64 (El.ml r (co p1)).v.2))
          generalize hUS : ((VV1.setCell ⟨gA, 0, none⟩ (.int .i64 (El.ml r (co p1)).v.1)).setCell ⟨gA, 1, none⟩ (.int .i64 (El.ml r (co p1)).v.2)) = US at E7 KW hHeld ⊢
          clear hUS
          refine wpAnyH_take (i := 12) (v := ?_) rfl (by kernel_rfl) (by kernel_rfl) (by kernel_rfl) (fun _ _ _ h => h) (Or.inl ⟨by rfl, ?_⟩) (by assumption) ?_
          rotate_left 1
          · (intro w' hSw; (try dsimp only at hSw); go_simp; try with_reducible rfl)
          try simp only [Act.put, List.setIfInBounds_toArray, List.set_cons_zero, List.set_cons_succ, List.getElem_toArray, List.getElem_cons_zero, List.getElem_cons_succ]
          refine wpAnyH_done (by kernel_rfl) ?_ _
          go_wp2_with fail
          go_meet
          exact ⟨gA, rfl, rfl, hide lA, E7, KW⟩
      case rest =>
        obtain ⟨g1, rfl, rfl, HL1, HE1, HG1⟩ := hcut
        rename World => wj
        have u0 := HG1.out.see u0
        have u1 := HG1.out.see u1
        have y0 := HE1.out.c0
        have y1 := HE1.out.c1
        have hwj := HG1.out.size
        have hg1l : g1 < wj.heap.size := HE1.out.lt
        clear v0 v1 x0 x1
        go_upto_region 14 with fail
        go_cut [17, 18] (fun pp cc W => ∃ gg : Nat, pp = .pointer (some ⟨gg, 0, none⟩) ∧ cc = .int .i64 0 ∧ Hid (wj.heap.size ≤ gg) ∧ Hid (ElB W gg (El.ad (co p) (El.ml r (co p1)))) ∧ Hid (Chg nob wj W))
        case first =>
          have KW := hide ((Chg.refl nob wj).drew1)
          have SA := hide (fun (WW : World) (kW : Chg nob wj WW) => (show (WW.cell? ⟨tb, tq + p * 2, none⟩ = some (.int .i64 (co p).v.1) ∧ WW.cell? ⟨tb, tq + p * 2 + 1, none⟩ = some (.int .i64 (co p).v.2) ∧ WW.cell? ⟨g1, 0, none⟩ = some (.int .i64 (El.ml r (co p1)).v.1) ∧ WW.cell? ⟨g1, 1, none⟩ = some (.int .i64 (El.ml r (co p1)).v.2)) from ⟨kW.see u0, kW.see u1, kW.see y0, kW.see y1⟩))
          refine wp_region_held_drew (S := fun w' => w'.cell? ⟨tb, tq + p * 2, none⟩ = some (.int .i64 (co p).v.1) ∧ w'.cell? ⟨tb, tq + p * 2 + 1, none⟩ = some (.int .i64 (co p).v.2) ∧ w'.cell? ⟨g1, 0, none⟩ = some (.int .i64 (El.ml r (co p1)).v.1) ∧ w'.cell? ⟨g1, 1, none⟩ = some (.int .i64 (El.ml r (co p1)).v.2)) (by kernel_rfl) ⟨u0, u1, y0, y1⟩ (fun hHeld => ?_)
          refine wpAnyH_take (i := 0) (v := ?_) rfl (by kernel_rfl) (by kernel_rfl) (by kernel_rfl) (fun _ _ _ h => h) (Or.inl ⟨by rfl, ?_⟩) (by assumption) ?_
          rotate_left 1
          · (intro w' hSw; (try dsimp only at hSw); go_simp; try with_reducible rfl)
          try simp only [Act.put, List.setIfInBounds_toArray, List.set_cons_zero, List.set_cons_succ, List.getElem_toArray, List.getElem_cons_zero, List.getElem_cons_succ]
          refine wpAnyH_take (i := 1) (v := ?_) rfl (by kernel_rfl) (by kernel_rfl) (by kernel_rfl) (fun _ _ _ h => h) (Or.inl ⟨by rfl, ?_⟩) (by assumption) ?_
          rotate_left 1
          · (intro w' hSw; (try dsimp only at hSw); go_simp; try with_reducible rfl)
          try simp only [Act.put, List.setIfInBounds_toArray, List.set_cons_zero, List.set_cons_succ, List.getElem_toArray, List.getElem_cons_zero, List.getElem_cons_succ]
          refine wpAnyH_take (i := 2) (v := ?_) rfl (by kernel_rfl) (by kernel_rfl) (by kernel_rfl) (fun _ _ _ h => h) (Or.inl ⟨by rfl, ?_⟩) (by assumption) ?_
          rotate_left 1
          · (intro w' hSw; (try dsimp only at hSw); go_simp; try with_reducible rfl)
          try simp only [Act.put, List.setIfInBounds_toArray, List.set_cons_zero, List.set_cons_succ, List.getElem_toArray, List.getElem_cons_zero, List.getElem_cons_succ]
          refine wpAnyH_take (i := 3) (v := ?_) rfl (by kernel_rfl) (by kernel_rfl) (by kernel_rfl) (fun _ _ _ h => h) (Or.inl ⟨by rfl, ?_⟩) (by assumption) ?_
          rotate_left 1
          · (intro w' hSw; (try dsimp only at hSw); go_simp; try with_reducible rfl)
          try simp only [Act.put, List.setIfInBounds_toArray, List.set_cons_zero, List.set_cons_succ, List.getElem_toArray, List.getElem_cons_zero, List.getElem_cons_succ]
          refine wpAnyH_take (i := 4) (v := ?_) rfl (by kernel_rfl) (by kernel_rfl) (by kernel_rfl) (fun _ _ _ h => h) (Or.inl ⟨by rfl, ?_⟩) (by assumption) ?_
          rotate_left 1
          · (intro w' hSw; (try dsimp only at hSw); go_simp; try with_reducible rfl)
          try simp only [Act.put, List.setIfInBounds_toArray, List.set_cons_zero, List.set_cons_succ, List.getElem_toArray, List.getElem_cons_zero, List.getElem_cons_succ]
          refine wpAnyH_ready (rs := [5, 9]) (by kernel_rfl) (by simp) ?_
          refine AllReadyH.cons rfl (fun K hK => ?_) ?_
          · refine stepL_callN 10 #[.tmp 78, .tmp 79] #[28, 28] (by rfl) (by rfl) #[.agg #[.int .i64 (co p).v.1, .int .i64 (co p).v.2], .agg #[.int .i64 (El.ml r (co p1)).v.1, .int .i64 (El.ml r (co p1)).v.2]] (by simp only [List.map_toArray, List.map_cons, List.map_nil] <;> rfl) (run_go Try.func10 (by kernel_rfl) (by kernel_rfl) _ _) (exAd_el (co p) (El.ml r (co p1)) _) ?_
            rintro e VW1 ⟨he, kk⟩
            refine ⟨_, he, ?_⟩
            replace KW := hide (KW.out.trans kk)
            refine hK.out _ _ (SA.out _ KW.out) (fun hHeld => ?_)
            clear hK K
            try simp only [Act.put, List.setIfInBounds_toArray, List.set_cons_zero, List.set_cons_succ, List.getElem_toArray, List.getElem_cons_zero, List.getElem_cons_succ]
            clear he kk
            refine wpAnyH_take (i := 6) (v := ?_) rfl (by kernel_rfl) (by kernel_rfl) (by kernel_rfl) (fun _ _ _ h => h) (Or.inl ⟨by rfl, ?_⟩) (by assumption) ?_
            rotate_left 1
            · (intro w' hSw; (try dsimp only at hSw); go_simp; try with_reducible rfl)
            try simp only [Act.put, List.setIfInBounds_toArray, List.set_cons_zero, List.set_cons_succ, List.getElem_toArray, List.getElem_cons_zero, List.getElem_cons_succ]
            refine wpAnyH_take (i := 7) (v := ?_) rfl (by kernel_rfl) (by kernel_rfl) (by kernel_rfl) (fun _ _ _ h => h) (Or.inl ⟨by rfl, ?_⟩) (by assumption) ?_
            rotate_left 1
            · (intro w' hSw; (try dsimp only at hSw); go_simp; try with_reducible rfl)
            try simp only [Act.put, List.setIfInBounds_toArray, List.set_cons_zero, List.set_cons_succ, List.getElem_toArray, List.getElem_cons_zero, List.getElem_cons_succ]
            refine wpAnyH_take (i := 8) (v := ?_) rfl (by kernel_rfl) (by kernel_rfl) (by kernel_rfl) (fun _ _ _ h => h) (Or.inl ⟨by rfl, ?_⟩) (by assumption) ?_
            rotate_left 1
            · (intro w' hSw; (try dsimp only at hSw); go_simp; try with_reducible rfl)
            try simp only [Act.put, List.setIfInBounds_toArray, List.set_cons_zero, List.set_cons_succ, List.getElem_toArray, List.getElem_cons_zero, List.getElem_cons_succ]
            refine wpAnyH_ready (rs := [9]) (by kernel_rfl) (by simp) ?_
            refine AllReadyH.cons rfl (fun K hK => ?_) AllReadyH.nil
            simp only [List.getElem_toArray, List.getElem_cons_zero, List.getElem_cons_succ]
            go_simp
            have E7 : Hid (ElB (World.alloc VW1 (.cells #[.int .i64 0, .int .i64 0] 28)) VW1.heap.size El.zr) := hide (ElB.zero VW1)
            have lq : wj.heap.size ≤ VW1.heap.size := KW.out.size
            replace KW : Hid (Chg nob wj (World.alloc VW1 (.cells #[.int .i64 0, .int .i64 0] 28))) := hide (KW.out.alloc _)
            generalize hUA : (World.alloc VW1 (.cells #[.int .i64 0, .int .i64 0] 28)) = UA at E7 KW ⊢
            clear hUA
            obtain ⟨gA, hgA⟩ : ∃ g, g = VW1.heap.size := ⟨_, rfl⟩
            have lA : wj.heap.size ≤ gA := by rw [hgA]; exact lq
            clear lq
            rw [← hgA] at E7 ⊢
            clear hgA
            refine hK.out _ _ (SA.out _ KW.out) (fun hHeld => ?_)
            clear hK K
            try simp only [Act.put, List.setIfInBounds_toArray, List.set_cons_zero, List.set_cons_succ, List.getElem_toArray, List.getElem_cons_zero, List.getElem_cons_succ]
            refine wpAnyH_ready (rs := [10]) (by kernel_rfl) (by simp) ?_
            refine AllReadyH.cons rfl (fun K hK => ?_) AllReadyH.nil
            have y0 := E7.out.c0
            have y1 := E7.out.c1
            have f0 := E7.out.fz 0
            have f1 := E7.out.fz 1
            have l7 := E7.out.lt
            have SS := SA.out _ KW.out
            simp only [List.getElem_toArray, List.getElem_cons_zero, List.getElem_cons_succ]
            go_simp
            refine hK.out _ _ ⟨look_two (by omega) (SS.1) 0 1 _ _, look_two (by omega) (SS.2.1) 0 1 _ _, look_two (by omega) (SS.2.2.1) 0 1 _ _, look_two (by omega) (SS.2.2.2) 0 1 _ _⟩ (fun hHeld => ?_)
            clear hK K
            try simp only [Act.put, List.setIfInBounds_toArray, List.set_cons_zero, List.set_cons_succ, List.getElem_toArray, List.getElem_cons_zero, List.getElem_cons_succ]
            clear y0 y1 f0 f1 l7 SS
            replace E7 := hide (E7.out.set (El.ad (co p) (El.ml r (co p1))))
            replace KW := hide (chg2_at KW.out gA (fun l => absurd l (by omega)) 0 1 (.int .i64 (El.ad (co p) (El.ml r (co p1))).v.1) (.int .i64 (El.ad (co p) (El.ml r (co p1))).v.2))
            generalize hUS : ((UA.setCell ⟨gA, 0, none⟩ (.int .i64 (El.ad (co p) (El.ml r (co p1))).v.1)).setCell ⟨gA, 1, none⟩ (.int .i64 (El.ad (co p) (El.ml r (co p1))).v.2)) = US at E7 KW hHeld ⊢
            clear hUS
            refine wpAnyH_take (i := 11) (v := ?_) rfl (by kernel_rfl) (by kernel_rfl) (by kernel_rfl) (fun _ _ _ h => h) (Or.inl ⟨by rfl, ?_⟩) (by assumption) ?_
            rotate_left 1
            · (intro w' hSw; (try dsimp only at hSw); go_simp; try with_reducible rfl)
            try simp only [Act.put, List.setIfInBounds_toArray, List.set_cons_zero, List.set_cons_succ, List.getElem_toArray, List.getElem_cons_zero, List.getElem_cons_succ]
            refine wpAnyH_done (by kernel_rfl) ?_ _
            go_wp2_with fail
            go_meet
            exact ⟨gA, rfl, rfl, hide lA, E7, KW⟩
          · refine AllReadyH.cons rfl (fun K hK => ?_) AllReadyH.nil
            simp only [List.getElem_toArray, List.getElem_cons_zero, List.getElem_cons_succ]
            go_simp
            have E7 : Hid (ElB (World.alloc wj (.cells #[.int .i64 0, .int .i64 0] 28)).drew wj.heap.size El.zr) := hide (ElB.keep (ElB.zero wj) (Chg.refl nob _).drew1)
            have lq : wj.heap.size ≤ wj.heap.size := Nat.le_refl _
            replace KW : Hid (Chg nob wj (World.alloc wj (.cells #[.int .i64 0, .int .i64 0] 28)).drew) := hide (((Chg.refl nob wj).alloc _).drew1)
            generalize hUA : (World.alloc wj (.cells #[.int .i64 0, .int .i64 0] 28)).drew = UA at E7 KW ⊢
            clear hUA
            obtain ⟨gA, hgA⟩ : ∃ g, g = wj.heap.size := ⟨_, rfl⟩
            have lA : wj.heap.size ≤ gA := by rw [hgA]; exact lq
            clear lq
            rw [← hgA] at E7 ⊢
            clear hgA
            refine hK.out _ _ (SA.out _ KW.out) (fun hHeld => ?_)
            clear hK K
            try simp only [Act.put, List.setIfInBounds_toArray, List.set_cons_zero, List.set_cons_succ, List.getElem_toArray, List.getElem_cons_zero, List.getElem_cons_succ]
            refine wpAnyH_ready (rs := [5]) (by kernel_rfl) (by simp) ?_
            refine AllReadyH.cons rfl (fun K hK => ?_) AllReadyH.nil
            refine stepL_callN 10 #[.tmp 78, .tmp 79] #[28, 28] (by rfl) (by rfl) #[.agg #[.int .i64 (co p).v.1, .int .i64 (co p).v.2], .agg #[.int .i64 (El.ml r (co p1)).v.1, .int .i64 (El.ml r (co p1)).v.2]] (by simp only [List.map_toArray, List.map_cons, List.map_nil] <;> rfl) (run_go Try.func10 (by kernel_rfl) (by kernel_rfl) _ _) (exAd_el (co p) (El.ml r (co p1)) _) ?_
            rintro e VW1 ⟨he, kk⟩
            replace E7 := hide (E7.out.keep kk)
            refine ⟨_, he, ?_⟩
            replace KW := hide (KW.out.trans kk)
            refine hK.out _ _ (SA.out _ KW.out) (fun hHeld => ?_)
            clear hK K
            try simp only [Act.put, List.setIfInBounds_toArray, List.set_cons_zero, List.set_cons_succ, List.getElem_toArray, List.getElem_cons_zero, List.getElem_cons_succ]
            clear he kk
            refine wpAnyH_take (i := 6) (v := ?_) rfl (by kernel_rfl) (by kernel_rfl) (by kernel_rfl) (fun _ _ _ h => h) (Or.inl ⟨by rfl, ?_⟩) (by assumption) ?_
            rotate_left 1
            · (intro w' hSw; (try dsimp only at hSw); go_simp; try with_reducible rfl)
            try simp only [Act.put, List.setIfInBounds_toArray, List.set_cons_zero, List.set_cons_succ, List.getElem_toArray, List.getElem_cons_zero, List.getElem_cons_succ]
            refine wpAnyH_take (i := 7) (v := ?_) rfl (by kernel_rfl) (by kernel_rfl) (by kernel_rfl) (fun _ _ _ h => h) (Or.inl ⟨by rfl, ?_⟩) (by assumption) ?_
            rotate_left 1
            · (intro w' hSw; (try dsimp only at hSw); go_simp; try with_reducible rfl)
            try simp only [Act.put, List.setIfInBounds_toArray, List.set_cons_zero, List.set_cons_succ, List.getElem_toArray, List.getElem_cons_zero, List.getElem_cons_succ]
            refine wpAnyH_take (i := 8) (v := ?_) rfl (by kernel_rfl) (by kernel_rfl) (by kernel_rfl) (fun _ _ _ h => h) (Or.inl ⟨by rfl, ?_⟩) (by assumption) ?_
            rotate_left 1
            · (intro w' hSw; (try dsimp only at hSw); go_simp; try with_reducible rfl)
            try simp only [Act.put, List.setIfInBounds_toArray, List.set_cons_zero, List.set_cons_succ, List.getElem_toArray, List.getElem_cons_zero, List.getElem_cons_succ]
            refine wpAnyH_ready (rs := [10]) (by kernel_rfl) (by simp) ?_
            refine AllReadyH.cons rfl (fun K hK => ?_) AllReadyH.nil
            have y0 := E7.out.c0
            have y1 := E7.out.c1
            have f0 := E7.out.fz 0
            have f1 := E7.out.fz 1
            have l7 := E7.out.lt
            have SS := SA.out _ KW.out
            simp only [List.getElem_toArray, List.getElem_cons_zero, List.getElem_cons_succ]
            go_simp
            refine hK.out _ _ ⟨look_two (by omega) (SS.1) 0 1 _ _, look_two (by omega) (SS.2.1) 0 1 _ _, look_two (by omega) (SS.2.2.1) 0 1 _ _, look_two (by omega) (SS.2.2.2) 0 1 _ _⟩ (fun hHeld => ?_)
            clear hK K
            try simp only [Act.put, List.setIfInBounds_toArray, List.set_cons_zero, List.set_cons_succ, List.getElem_toArray, List.getElem_cons_zero, List.getElem_cons_succ]
            clear y0 y1 f0 f1 l7 SS
            replace E7 := hide (E7.out.set (El.ad (co p) (El.ml r (co p1))))
            replace KW := hide (chg2_at KW.out gA (fun l => absurd l (by omega)) 0 1 (.int .i64 (El.ad (co p) (El.ml r (co p1))).v.1) (.int .i64 (El.ad (co p) (El.ml r (co p1))).v.2))
            generalize hUS : ((VW1.setCell ⟨gA, 0, none⟩ (.int .i64 (El.ad (co p) (El.ml r (co p1))).v.1)).setCell ⟨gA, 1, none⟩ (.int .i64 (El.ad (co p) (El.ml r (co p1))).v.2)) = US at E7 KW hHeld ⊢
            clear hUS
            refine wpAnyH_take (i := 11) (v := ?_) rfl (by kernel_rfl) (by kernel_rfl) (by kernel_rfl) (fun _ _ _ h => h) (Or.inl ⟨by rfl, ?_⟩) (by assumption) ?_
            rotate_left 1
            · (intro w' hSw; (try dsimp only at hSw); go_simp; try with_reducible rfl)
            try simp only [Act.put, List.setIfInBounds_toArray, List.set_cons_zero, List.set_cons_succ, List.getElem_toArray, List.getElem_cons_zero, List.getElem_cons_succ]
            refine wpAnyH_done (by kernel_rfl) ?_ _
            go_wp2_with fail
            go_meet
            exact ⟨gA, rfl, rfl, hide lA, E7, KW⟩
        case rest =>
          obtain ⟨g2, rfl, rfl, HL2, HE2, HG2⟩ := hcut
          rename World => wk
          rw [HSM.out] at HE2
          have HW1 := hide (flKeep HW.out (HG1.out.trans HG2.out))
          have HG3 := hide (HG.out.trans (HG1.out.trans HG2.out))
          have hsz1 := HG3.out.size
          clear HW HG u0 u1 y0 y1 TI XI HE1 HG1 HG2
          have y0 := HE2.out.c0
          have y1 := HE2.out.c1
          go_wp2_with (at_builtin; refine wpList_append_own _ rfl (.tmp 89) (.tmp 91) 24 rfl W5.heap.size 28 i0 (.agg #[.int .i64 0, .int .i64 0]) 2 16 Try.underlying24 HI.out HZ0.out HZ1.out HZ2.out rfl (by decide) _ k _ rfl (HW1.out.alloc _) ⟨_, 0, none⟩ 1 1 [.int .i64 (hv k).v.1, .int .i64 (hv k).v.2] rfl rfl ?c1 ?c2 ?c3 ?c4 ?c5 ?c6)
          case c1 => exact flNews _ _ _ _
          case c2 => exact flOne _ _
          case c3 => unfold maxLen; have := HMQ.out; omega
          case c4 => have := HMQ.out; omega
          case c5 => simp; omega
          case c6 =>
            intro v' w2 hown hgr _
            have HW2 : Hid (w2.ownsRow W5.heap.size 28 2 v' (k + 1) ((List.range ((k + 1) * 2)).map (pf (cA hv) (cB hv)))) := hide (by rw [← flPair]; exact hown)
            have HG4 := hide ((HG3.out.alloc _).grown hgr (fun i e l => absurd (HW1.out.lt i e).1 (by omega)))
            clear hown hgr HW1 HG3 y0 y1 HE2
            go_wp2
            go_roundw
            case rel => exact ⟨k + 1, p2, by omega, rfl, hide (by rw [HP2.out, HP.out]; omega), HW2, HG4⟩
            case measure => simp [intOf]; omega
    · obtain rfl : Q = k := by omega
      have hc : ¬ (p : Int) < (M : Int) := by have := HP.out; have := HMQ.out; omega
      obtain ⟨ch, caph, eh, oh⟩ := flPairs HW.out
      subst eh
      have H6 := hide (show PairE wi ch Q hv from oh)
      have F6 := hide (F5.out.keep HG.out)
      have V6 := hide (V5.out.keep HG.out)
      have X6 := hide (X5.out.keep HG.out)
      have G6 := hide (G5.out.trans HG.out)
      clear oh HW HG F5 V5 X5 T5 G5
      have QH := hide (fun (w' : World) (h : Hid (PairE w' ch Q hv)) => enc_el ch Q m q H caph HQ.out (show H = Q * 2 ^ q by rw [HH.out, HQ.out, HL.out, Nat.pow_add]) hv w' h (by have := HL.out; omega))
      rw [← HL.out, ← HFV.out] at QH
      go_wp2_with fail
      refine (QH.out _ H6).mono ?_
      rintro e W7 ⟨cw, capw, rfl, hcw, hcwm, o7, k7⟩
      have E7w := hide (show PairE W7 cw H F from OwnE.pairs o7)
      have F7 := hide (F6.out.keep k7)
      have V7 := hide (V6.out.keep k7)
      have X7 := hide (X6.out.keep k7)
      have G7 := hide (G6.out.trans k7)
      clear o7 k7 F6 V6 X6 G6 H6 QH
      have hdz : (Z : Int) / 2 = (H : Int) := by have := HZH.out; omega
      have hwh : IntKind.i64.wrap (H : Int) = (H : Int) := by rw [IntKind.wrap_i64]; omega
      go_wp2_with fail
      refine (at_pl a1 len1 cap1 2 H _ (HB1.out.below G7.out.toBelow) hl1 (by omega) (by omega) (by omega)).mono ?_
      rintro e W8 ⟨k, rfl, hkH, k8⟩
      have E8w := hide (E7w.out.keep k8)
      have F8 := hide (F7.out.keep k8)
      have V8 := hide (V7.out.keep k8)
      have X8 := hide (X7.out.keep k8)
      have G8 := hide (G7.out.trans k8)
      clear k8 E7w F7 V7 X7 G7
      have hk1 : (k : Int) < (H : Int) := by omega
      have hk0 : (0 : Int) ≤ (k : Int) := by omega
      have hk2 : ¬ (H : Int) ≤ (k : Int) := by omega
      go_wp2_with fail
      refine (sameExts_any cg cw H H capg capw (cA F) (cB F) (cA F) (cB F) _ F8 E8w rfl (fun _ _ => ⟨rfl, rfl⟩) (by omega)).mono ?_
      rintro e W9 ⟨rfl, k9⟩
      have F9 := hide (F8.out.keep k9)
      have V9 := hide (V8.out.keep k9)
      have X9 := hide (X8.out.keep k9)
      have G9 := hide (G8.out.trans k9)
      clear k9 E8w F8 V8 X8 G8
      obtain ⟨p, hp⟩ : ∃ p, p = k + H := ⟨_, rfl⟩
      have hkZ : k < Z := by have := HZH.out; omega
      have hpZ : p < Z := by have := HZH.out; omega
      have hkZ' : (k : Int) < (Z : Int) := by omega
      have hpZ' : (p : Int) < (Z : Int) := by omega
      have hp0 : (0 : Int) ≤ (p : Int) := by omega
      have hwp : IntKind.i64.wrap ((k : Int) + (H : Int)) = (p : Int) := by rw [IntKind.wrap_i64]; omega
      have HPK := hide hp
      clear hp
      obtain ⟨vb, vo, ev, hvb, _, _⟩ := PairE.at_ V9.out hkZ
      subst ev
      obtain ⟨fb, fo, ef, hfb, _, _⟩ := PairE.at_ F9.out hkH
      subst ef
      have u0 := PairE.c0 V9.out hkZ
      have u1 := PairE.c1 V9.out hkZ
      have v0 := PairE.c0 V9.out hpZ
      have v1 := PairE.c1 V9.out hpZ
      have x0 := X9.out.c0
      have x1 := X9.out.c1
      have hxl : W3.heap.size < W9.heap.size := X9.out.lt
      have QP := hide (fun (w' : World) => foldPair_el Z k (L + 1) HZP.out (by omega) (by have := HZH.out; omega) hkH (by have := HZH.out; omega) (V k) (V p) r w')
      have HFK := hide (show El.fpr (V k) (V p) r (El.pwE (El.rtE (L + 1)) k) = F k by rw [← HF.out k hkH, HPK.out]; rfl)
      rw [HFK.out] at QP
      go_upto_region 22 with fail
      go_cut [22, 23] (fun pp cc W => ∃ gg : Nat, pp = .pointer (some ⟨gg, 0, none⟩) ∧ cc = .int .i64 0 ∧ Hid (W9.heap.size ≤ gg) ∧ Hid (ElB W gg (F k)) ∧ Hid (Chg nob W9 W))
      case first =>
        have KW := hide ((Chg.refl nob W9).drew1)
        have SA := hide (fun (WW : World) (kW : Chg nob W9 WW) => (show (WW.cell? ⟨vb, vo + k * 2, none⟩ = some (.int .i64 (V k).v.1) ∧ WW.cell? ⟨vb, vo + k * 2 + 1, none⟩ = some (.int .i64 (V k).v.2) ∧ WW.cell? ⟨vb, vo + p * 2, none⟩ = some (.int .i64 (V p).v.1) ∧ WW.cell? ⟨vb, vo + p * 2 + 1, none⟩ = some (.int .i64 (V p).v.2) ∧ WW.cell? ⟨W3.heap.size, 0, none⟩ = some (.int .i64 r.v.1) ∧ WW.cell? ⟨W3.heap.size, 1, none⟩ = some (.int .i64 r.v.2)) from ⟨kW.see u0, kW.see u1, kW.see v0, kW.see v1, kW.see x0, kW.see x1⟩))
        refine wp_region_held_drew (S := fun w' => w'.cell? ⟨vb, vo + k * 2, none⟩ = some (.int .i64 (V k).v.1) ∧ w'.cell? ⟨vb, vo + k * 2 + 1, none⟩ = some (.int .i64 (V k).v.2) ∧ w'.cell? ⟨vb, vo + p * 2, none⟩ = some (.int .i64 (V p).v.1) ∧ w'.cell? ⟨vb, vo + p * 2 + 1, none⟩ = some (.int .i64 (V p).v.2) ∧ w'.cell? ⟨W3.heap.size, 0, none⟩ = some (.int .i64 r.v.1) ∧ w'.cell? ⟨W3.heap.size, 1, none⟩ = some (.int .i64 r.v.2)) (by kernel_rfl) ⟨u0, u1, v0, v1, x0, x1⟩ (fun hHeld => ?_)
        refine wpAnyH_take (i := 0) (v := ?_) rfl (by kernel_rfl) (by kernel_rfl) (by kernel_rfl) (fun _ _ _ h => h) (Or.inl ⟨by rfl, ?_⟩) (by assumption) ?_
        rotate_left 1
        · (intro w' hSw; (try dsimp only at hSw); go_simp; try with_reducible rfl)
        try simp only [Act.put, List.setIfInBounds_toArray, List.set_cons_zero, List.set_cons_succ, List.getElem_toArray, List.getElem_cons_zero, List.getElem_cons_succ]
        refine wpAnyH_take (i := 1) (v := ?_) rfl (by kernel_rfl) (by kernel_rfl) (by kernel_rfl) (fun _ _ _ h => h) (Or.inl ⟨by rfl, ?_⟩) (by assumption) ?_
        rotate_left 1
        · (intro w' hSw; (try dsimp only at hSw); go_simp; try with_reducible rfl)
        try simp only [Act.put, List.setIfInBounds_toArray, List.set_cons_zero, List.set_cons_succ, List.getElem_toArray, List.getElem_cons_zero, List.getElem_cons_succ]
        refine wpAnyH_take (i := 2) (v := ?_) rfl (by kernel_rfl) (by kernel_rfl) (by kernel_rfl) (fun _ _ _ h => h) (Or.inl ⟨by rfl, ?_⟩) (by assumption) ?_
        rotate_left 1
        · (intro w' hSw; (try dsimp only at hSw); go_simp; try with_reducible rfl)
        try simp only [Act.put, List.setIfInBounds_toArray, List.set_cons_zero, List.set_cons_succ, List.getElem_toArray, List.getElem_cons_zero, List.getElem_cons_succ]
        refine wpAnyH_take (i := 3) (v := ?_) rfl (by kernel_rfl) (by kernel_rfl) (by kernel_rfl) (fun _ _ _ h => h) (Or.inl ⟨by rfl, ?_⟩) (by assumption) ?_
        rotate_left 1
        · (intro w' hSw; (try dsimp only at hSw); go_simp; try with_reducible rfl)
        try simp only [Act.put, List.setIfInBounds_toArray, List.set_cons_zero, List.set_cons_succ, List.getElem_toArray, List.getElem_cons_zero, List.getElem_cons_succ]
        refine wpAnyH_take (i := 4) (v := ?_) rfl (by kernel_rfl) (by kernel_rfl) (by kernel_rfl) (fun _ _ _ h => h) (Or.inl ⟨by rfl, ?_⟩) (by assumption) ?_
        rotate_left 1
        · (intro w' hSw; (try dsimp only at hSw); go_simp; try with_reducible rfl)
        try simp only [Act.put, List.setIfInBounds_toArray, List.set_cons_zero, List.set_cons_succ, List.getElem_toArray, List.getElem_cons_zero, List.getElem_cons_succ]
        refine wpAnyH_take (i := 5) (v := ?_) rfl (by kernel_rfl) (by kernel_rfl) (by kernel_rfl) (fun _ _ _ h => h) (Or.inl ⟨by rfl, ?_⟩) (by assumption) ?_
        rotate_left 1
        · (intro w' hSw; (try dsimp only at hSw); go_simp; try with_reducible rfl)
        try simp only [Act.put, List.setIfInBounds_toArray, List.set_cons_zero, List.set_cons_succ, List.getElem_toArray, List.getElem_cons_zero, List.getElem_cons_succ]
        refine wpAnyH_take (i := 6) (v := ?_) rfl (by kernel_rfl) (by kernel_rfl) (by kernel_rfl) (fun _ _ _ h => h) (Or.inl ⟨by rfl, ?_⟩) (by assumption) ?_
        rotate_left 1
        · (intro w' hSw; (try dsimp only at hSw); go_simp; try with_reducible rfl)
        try simp only [Act.put, List.setIfInBounds_toArray, List.set_cons_zero, List.set_cons_succ, List.getElem_toArray, List.getElem_cons_zero, List.getElem_cons_succ]
        refine wpAnyH_take (i := 7) (v := ?_) rfl (by kernel_rfl) (by kernel_rfl) (by kernel_rfl) (fun _ _ _ h => h) (Or.inl ⟨by rfl, ?_⟩) (by assumption) ?_
        rotate_left 1
        · (intro w' hSw; (try dsimp only at hSw); go_simp; try with_reducible rfl)
        try simp only [Act.put, List.setIfInBounds_toArray, List.set_cons_zero, List.set_cons_succ, List.getElem_toArray, List.getElem_cons_zero, List.getElem_cons_succ]
        refine wpAnyH_take (i := 8) (v := ?_) rfl (by kernel_rfl) (by kernel_rfl) (by kernel_rfl) (fun _ _ _ h => h) (Or.inl ⟨by rfl, ?_⟩) (by assumption) ?_
        rotate_left 1
        · (intro w' hSw; (try dsimp only at hSw); go_simp; try with_reducible rfl)
        try simp only [Act.put, List.setIfInBounds_toArray, List.set_cons_zero, List.set_cons_succ, List.getElem_toArray, List.getElem_cons_zero, List.getElem_cons_succ]
        refine wpAnyH_take (i := 9) (v := ?_) rfl (by kernel_rfl) (by kernel_rfl) (by kernel_rfl) (fun _ _ _ h => h) (Or.inl ⟨by rfl, ?_⟩) (by assumption) ?_
        rotate_left 1
        · (intro w' hSw; (try dsimp only at hSw); go_simp; try with_reducible rfl)
        try simp only [Act.put, List.setIfInBounds_toArray, List.set_cons_zero, List.set_cons_succ, List.getElem_toArray, List.getElem_cons_zero, List.getElem_cons_succ]
        refine wpAnyH_take (i := 10) (v := ?_) rfl (by kernel_rfl) (by kernel_rfl) (by kernel_rfl) (fun _ _ _ h => h) (Or.inl ⟨by rfl, ?_⟩) (by assumption) ?_
        rotate_left 1
        · (intro w' hSw; (try dsimp only at hSw); go_simp; try with_reducible rfl)
        try simp only [Act.put, List.setIfInBounds_toArray, List.set_cons_zero, List.set_cons_succ, List.getElem_toArray, List.getElem_cons_zero, List.getElem_cons_succ]
        refine wpAnyH_take (i := 11) (v := .int .i64 (H : Int)) rfl (by kernel_rfl) (by kernel_rfl) (by kernel_rfl) (fun _ _ _ h => h) (Or.inl ⟨by rfl, ?_⟩) (by assumption) ?_
        · (intro w' hSw; (try dsimp only at hSw); go_simp; first | done | exact hdz | exact hwh | (rw [IntKind.wrap_i64]; omega))
        try simp only [Act.put, List.setIfInBounds_toArray, List.set_cons_zero, List.set_cons_succ, List.getElem_toArray, List.getElem_cons_zero, List.getElem_cons_succ]
        refine wpAnyH_take (i := 12) (v := .int .i64 (p : Int)) rfl (by kernel_rfl) (by kernel_rfl) (by kernel_rfl) (fun _ _ _ h => h) (Or.inl ⟨by rfl, ?_⟩) (by assumption) ?_
        · (intro w' hSw; (try dsimp only at hSw); go_simp; first | done | exact hwp)
        try simp only [Act.put, List.setIfInBounds_toArray, List.set_cons_zero, List.set_cons_succ, List.getElem_toArray, List.getElem_cons_zero, List.getElem_cons_succ]
        refine wpAnyH_take (i := 13) (v := ?_) rfl (by kernel_rfl) (by kernel_rfl) (by kernel_rfl) (fun _ _ _ h => h) (Or.inl ⟨by rfl, ?_⟩) (by assumption) ?_
        rotate_left 1
        · (intro w' hSw; (try dsimp only at hSw); go_simp; try with_reducible rfl)
        try simp only [Act.put, List.setIfInBounds_toArray, List.set_cons_zero, List.set_cons_succ, List.getElem_toArray, List.getElem_cons_zero, List.getElem_cons_succ]
        refine wpAnyH_take (i := 14) (v := ?_) rfl (by kernel_rfl) (by kernel_rfl) (by kernel_rfl) (fun _ _ _ h => h) (Or.inl ⟨by rfl, ?_⟩) (by assumption) ?_
        rotate_left 1
        · (intro w' hSw; (try dsimp only at hSw); go_simp; try with_reducible rfl)
        try simp only [Act.put, List.setIfInBounds_toArray, List.set_cons_zero, List.set_cons_succ, List.getElem_toArray, List.getElem_cons_zero, List.getElem_cons_succ]
        refine wpAnyH_take (i := 15) (v := ?_) rfl (by kernel_rfl) (by kernel_rfl) (by kernel_rfl) (fun _ _ _ h => h) (Or.inl ⟨by rfl, ?_⟩) (by assumption) ?_
        rotate_left 1
        · (intro w' hSw; (try dsimp only at hSw); go_simp; try with_reducible rfl)
        try simp only [Act.put, List.setIfInBounds_toArray, List.set_cons_zero, List.set_cons_succ, List.getElem_toArray, List.getElem_cons_zero, List.getElem_cons_succ]
        refine wpAnyH_ready (rs := [16, 20]) (by kernel_rfl) (by simp) ?_
        refine AllReadyH.cons rfl (fun K hK => ?_) ?_
        · refine stepL_callN 12 #[.tmp 131, .tmp 132, .tmp 136, .tmp 144, .tmp 145] #[3, 3, 28, 28, 28] (by rfl) (by rfl) #[.int .i64 (Z : Int), .int .i64 (k : Int), .agg #[.int .i64 (V k).v.1, .int .i64 (V k).v.2], .agg #[.int .i64 (V p).v.1, .int .i64 (V p).v.2], .agg #[.int .i64 r.v.1, .int .i64 r.v.2]] (by simp only [List.map_toArray, List.map_cons, List.map_nil] <;> rfl) (run_go Try.func12 (by kernel_rfl) (by kernel_rfl) _ _) (QP.out _) ?_
          rintro e VX1 ⟨he, kk⟩
          refine ⟨_, he, ?_⟩
          replace KW := hide (KW.out.trans kk)
          refine hK.out _ _ (SA.out _ KW.out) (fun hHeld => ?_)
          clear hK K
          try simp only [Act.put, List.setIfInBounds_toArray, List.set_cons_zero, List.set_cons_succ, List.getElem_toArray, List.getElem_cons_zero, List.getElem_cons_succ]
          clear he kk
          refine wpAnyH_take (i := 17) (v := ?_) rfl (by kernel_rfl) (by kernel_rfl) (by kernel_rfl) (fun _ _ _ h => h) (Or.inl ⟨by rfl, ?_⟩) (by assumption) ?_
          rotate_left 1
          · (intro w' hSw; (try dsimp only at hSw); go_simp; try with_reducible rfl)
          try simp only [Act.put, List.setIfInBounds_toArray, List.set_cons_zero, List.set_cons_succ, List.getElem_toArray, List.getElem_cons_zero, List.getElem_cons_succ]
          refine wpAnyH_take (i := 18) (v := ?_) rfl (by kernel_rfl) (by kernel_rfl) (by kernel_rfl) (fun _ _ _ h => h) (Or.inl ⟨by rfl, ?_⟩) (by assumption) ?_
          rotate_left 1
          · (intro w' hSw; (try dsimp only at hSw); go_simp; try with_reducible rfl)
          try simp only [Act.put, List.setIfInBounds_toArray, List.set_cons_zero, List.set_cons_succ, List.getElem_toArray, List.getElem_cons_zero, List.getElem_cons_succ]
          refine wpAnyH_take (i := 19) (v := ?_) rfl (by kernel_rfl) (by kernel_rfl) (by kernel_rfl) (fun _ _ _ h => h) (Or.inl ⟨by rfl, ?_⟩) (by assumption) ?_
          rotate_left 1
          · (intro w' hSw; (try dsimp only at hSw); go_simp; try with_reducible rfl)
          try simp only [Act.put, List.setIfInBounds_toArray, List.set_cons_zero, List.set_cons_succ, List.getElem_toArray, List.getElem_cons_zero, List.getElem_cons_succ]
          refine wpAnyH_ready (rs := [20]) (by kernel_rfl) (by simp) ?_
          refine AllReadyH.cons rfl (fun K hK => ?_) AllReadyH.nil
          simp only [List.getElem_toArray, List.getElem_cons_zero, List.getElem_cons_succ]
          go_simp
          have E7 : Hid (ElB (World.alloc VX1 (.cells #[.int .i64 0, .int .i64 0] 28)) VX1.heap.size El.zr) := hide (ElB.zero VX1)
          have lq : W9.heap.size ≤ VX1.heap.size := KW.out.size
          replace KW : Hid (Chg nob W9 (World.alloc VX1 (.cells #[.int .i64 0, .int .i64 0] 28))) := hide (KW.out.alloc _)
          generalize hUA : (World.alloc VX1 (.cells #[.int .i64 0, .int .i64 0] 28)) = UA at E7 KW ⊢
          clear hUA
          obtain ⟨gA, hgA⟩ : ∃ g, g = VX1.heap.size := ⟨_, rfl⟩
          have lA : W9.heap.size ≤ gA := by rw [hgA]; exact lq
          clear lq
          rw [← hgA] at E7 ⊢
          clear hgA
          refine hK.out _ _ (SA.out _ KW.out) (fun hHeld => ?_)
          clear hK K
          try simp only [Act.put, List.setIfInBounds_toArray, List.set_cons_zero, List.set_cons_succ, List.getElem_toArray, List.getElem_cons_zero, List.getElem_cons_succ]
          refine wpAnyH_ready (rs := [21]) (by kernel_rfl) (by simp) ?_
          refine AllReadyH.cons rfl (fun K hK => ?_) AllReadyH.nil
          have y0 := E7.out.c0
          have y1 := E7.out.c1
          have f0 := E7.out.fz 0
          have f1 := E7.out.fz 1
          have l7 := E7.out.lt
          have SS := SA.out _ KW.out
          simp only [List.getElem_toArray, List.getElem_cons_zero, List.getElem_cons_succ]
          go_simp
          refine hK.out _ _ ⟨look_two (by omega) (SS.1) 0 1 _ _, look_two (by omega) (SS.2.1) 0 1 _ _, look_two (by omega) (SS.2.2.1) 0 1 _ _, look_two (by omega) (SS.2.2.2.1) 0 1 _ _, look_two (by omega) (SS.2.2.2.2.1) 0 1 _ _, look_two (by omega) (SS.2.2.2.2.2) 0 1 _ _⟩ (fun hHeld => ?_)
          clear hK K
          try simp only [Act.put, List.setIfInBounds_toArray, List.set_cons_zero, List.set_cons_succ, List.getElem_toArray, List.getElem_cons_zero, List.getElem_cons_succ]
          clear y0 y1 f0 f1 l7 SS
          replace E7 := hide (E7.out.set (F k))
          replace KW := hide (chg2_at KW.out gA (fun l => absurd l (by omega)) 0 1 (.int .i64 (F k).v.1) (.int .i64 (F k).v.2))
          generalize hUS : ((UA.setCell ⟨gA, 0, none⟩ (.int .i64 (F k).v.1)).setCell ⟨gA, 1, none⟩ (.int .i64 (F k).v.2)) = US at E7 KW hHeld ⊢
          clear hUS
          refine wpAnyH_take (i := 22) (v := ?_) rfl (by kernel_rfl) (by kernel_rfl) (by kernel_rfl) (fun _ _ _ h => h) (Or.inl ⟨by rfl, ?_⟩) (by assumption) ?_
          rotate_left 1
          · (intro w' hSw; (try dsimp only at hSw); go_simp; try with_reducible rfl)
          try simp only [Act.put, List.setIfInBounds_toArray, List.set_cons_zero, List.set_cons_succ, List.getElem_toArray, List.getElem_cons_zero, List.getElem_cons_succ]
          refine wpAnyH_done (by kernel_rfl) ?_ _
          go_wp2_with fail
          go_meet
          exact ⟨gA, rfl, rfl, hide lA, E7, KW⟩
        · refine AllReadyH.cons rfl (fun K hK => ?_) AllReadyH.nil
          simp only [List.getElem_toArray, List.getElem_cons_zero, List.getElem_cons_succ]
          go_simp
          have E7 : Hid (ElB (World.alloc W9 (.cells #[.int .i64 0, .int .i64 0] 28)).drew W9.heap.size El.zr) := hide (ElB.keep (ElB.zero W9) (Chg.refl nob _).drew1)
          have lq : W9.heap.size ≤ W9.heap.size := Nat.le_refl _
          replace KW : Hid (Chg nob W9 (World.alloc W9 (.cells #[.int .i64 0, .int .i64 0] 28)).drew) := hide (((Chg.refl nob W9).alloc _).drew1)
          generalize hUA : (World.alloc W9 (.cells #[.int .i64 0, .int .i64 0] 28)).drew = UA at E7 KW ⊢
          clear hUA
          obtain ⟨gA, hgA⟩ : ∃ g, g = W9.heap.size := ⟨_, rfl⟩
          have lA : W9.heap.size ≤ gA := by rw [hgA]; exact lq
          clear lq
          rw [← hgA] at E7 ⊢
          clear hgA
          refine hK.out _ _ (SA.out _ KW.out) (fun hHeld => ?_)
          clear hK K
          try simp only [Act.put, List.setIfInBounds_toArray, List.set_cons_zero, List.set_cons_succ, List.getElem_toArray, List.getElem_cons_zero, List.getElem_cons_succ]
          refine wpAnyH_ready (rs := [16]) (by kernel_rfl) (by simp) ?_
          refine AllReadyH.cons rfl (fun K hK => ?_) AllReadyH.nil
          refine stepL_callN 12 #[.tmp 131, .tmp 132, .tmp 136, .tmp 144, .tmp 145] #[3, 3, 28, 28, 28] (by rfl) (by rfl) #[.int .i64 (Z : Int), .int .i64 (k : Int), .agg #[.int .i64 (V k).v.1, .int .i64 (V k).v.2], .agg #[.int .i64 (V p).v.1, .int .i64 (V p).v.2], .agg #[.int .i64 r.v.1, .int .i64 r.v.2]] (by simp only [List.map_toArray, List.map_cons, List.map_nil] <;> rfl) (run_go Try.func12 (by kernel_rfl) (by kernel_rfl) _ _) (QP.out _) ?_
          rintro e VX1 ⟨he, kk⟩
          replace E7 := hide (E7.out.keep kk)
          refine ⟨_, he, ?_⟩
          replace KW := hide (KW.out.trans kk)
          refine hK.out _ _ (SA.out _ KW.out) (fun hHeld => ?_)
          clear hK K
          try simp only [Act.put, List.setIfInBounds_toArray, List.set_cons_zero, List.set_cons_succ, List.getElem_toArray, List.getElem_cons_zero, List.getElem_cons_succ]
          clear he kk
          refine wpAnyH_take (i := 17) (v := ?_) rfl (by kernel_rfl) (by kernel_rfl) (by kernel_rfl) (fun _ _ _ h => h) (Or.inl ⟨by rfl, ?_⟩) (by assumption) ?_
          rotate_left 1
          · (intro w' hSw; (try dsimp only at hSw); go_simp; try with_reducible rfl)
          try simp only [Act.put, List.setIfInBounds_toArray, List.set_cons_zero, List.set_cons_succ, List.getElem_toArray, List.getElem_cons_zero, List.getElem_cons_succ]
          refine wpAnyH_take (i := 18) (v := ?_) rfl (by kernel_rfl) (by kernel_rfl) (by kernel_rfl) (fun _ _ _ h => h) (Or.inl ⟨by rfl, ?_⟩) (by assumption) ?_
          rotate_left 1
          · (intro w' hSw; (try dsimp only at hSw); go_simp; try with_reducible rfl)
          try simp only [Act.put, List.setIfInBounds_toArray, List.set_cons_zero, List.set_cons_succ, List.getElem_toArray, List.getElem_cons_zero, List.getElem_cons_succ]
          refine wpAnyH_take (i := 19) (v := ?_) rfl (by kernel_rfl) (by kernel_rfl) (by kernel_rfl) (fun _ _ _ h => h) (Or.inl ⟨by rfl, ?_⟩) (by assumption) ?_
          rotate_left 1
          · (intro w' hSw; (try dsimp only at hSw); go_simp; try with_reducible rfl)
          try simp only [Act.put, List.setIfInBounds_toArray, List.set_cons_zero, List.set_cons_succ, List.getElem_toArray, List.getElem_cons_zero, List.getElem_cons_succ]
          refine wpAnyH_ready (rs := [21]) (by kernel_rfl) (by simp) ?_
          refine AllReadyH.cons rfl (fun K hK => ?_) AllReadyH.nil
          have y0 := E7.out.c0
          have y1 := E7.out.c1
          have f0 := E7.out.fz 0
          have f1 := E7.out.fz 1
          have l7 := E7.out.lt
          have SS := SA.out _ KW.out
          simp only [List.getElem_toArray, List.getElem_cons_zero, List.getElem_cons_succ]
          go_simp
          refine hK.out _ _ ⟨look_two (by omega) (SS.1) 0 1 _ _, look_two (by omega) (SS.2.1) 0 1 _ _, look_two (by omega) (SS.2.2.1) 0 1 _ _, look_two (by omega) (SS.2.2.2.1) 0 1 _ _, look_two (by omega) (SS.2.2.2.2.1) 0 1 _ _, look_two (by omega) (SS.2.2.2.2.2) 0 1 _ _⟩ (fun hHeld => ?_)
          clear hK K
          try simp only [Act.put, List.setIfInBounds_toArray, List.set_cons_zero, List.set_cons_succ, List.getElem_toArray, List.getElem_cons_zero, List.getElem_cons_succ]
          clear y0 y1 f0 f1 l7 SS
          replace E7 := hide (E7.out.set (F k))
          replace KW := hide (chg2_at KW.out gA (fun l => absurd l (by omega)) 0 1 (.int .i64 (F k).v.1) (.int .i64 (F k).v.2))
          generalize hUS : ((VX1.setCell ⟨gA, 0, none⟩ (.int .i64 (F k).v.1)).setCell ⟨gA, 1, none⟩ (.int .i64 (F k).v.2)) = US at E7 KW hHeld ⊢
          clear hUS
          refine wpAnyH_take (i := 22) (v := ?_) rfl (by kernel_rfl) (by kernel_rfl) (by kernel_rfl) (fun _ _ _ h => h) (Or.inl ⟨by rfl, ?_⟩) (by assumption) ?_
          rotate_left 1
          · (intro w' hSw; (try dsimp only at hSw); go_simp; try with_reducible rfl)
          try simp only [Act.put, List.setIfInBounds_toArray, List.set_cons_zero, List.set_cons_succ, List.getElem_toArray, List.getElem_cons_zero, List.getElem_cons_succ]
          refine wpAnyH_done (by kernel_rfl) ?_ _
          go_wp2_with fail
          go_meet
          exact ⟨gA, rfl, rfl, hide lA, E7, KW⟩
      case rest =>
        obtain ⟨g3, rfl, rfl, HL3, HE3, HG3⟩ := hcut
        rename World => WC
        have FC := hide (F9.out.keep HG3.out)
        have GC := hide (G9.out.trans HG3.out)
        have f0 := PairE.c0 FC.out hkH
        have f1 := PairE.c1 FC.out hkH
        have y0 := HE3.out.c0
        have y1 := HE3.out.c1
        clear u0 u1 v0 v1 x0 x1
        go_upto_region 23 with fail
        have KW := hide ((Chg.refl nob WC).drew1)
        have SA := hide (fun (WW : World) (kW : Chg nob WC WW) => (show (WW.cell? ⟨g3, 0, none⟩ = some (.int .i64 (F k).v.1) ∧ WW.cell? ⟨g3, 1, none⟩ = some (.int .i64 (F k).v.2) ∧ WW.cell? ⟨fb, fo + k * 2, none⟩ = some (.int .i64 (F k).v.1) ∧ WW.cell? ⟨fb, fo + k * 2 + 1, none⟩ = some (.int .i64 (F k).v.2)) from ⟨kW.see y0, kW.see y1, kW.see f0, kW.see f1⟩))
        refine wp_region_held_drew (S := fun w' => w'.cell? ⟨g3, 0, none⟩ = some (.int .i64 (F k).v.1) ∧ w'.cell? ⟨g3, 1, none⟩ = some (.int .i64 (F k).v.2) ∧ w'.cell? ⟨fb, fo + k * 2, none⟩ = some (.int .i64 (F k).v.1) ∧ w'.cell? ⟨fb, fo + k * 2 + 1, none⟩ = some (.int .i64 (F k).v.2)) (by kernel_rfl) ⟨y0, y1, f0, f1⟩ (fun hHeld => ?_)
        refine wpAnyH_take (i := 0) (v := ?_) rfl (by kernel_rfl) (by kernel_rfl) (by kernel_rfl) (fun _ _ _ h => h) (Or.inl ⟨by rfl, ?_⟩) (by assumption) ?_
        rotate_left 1
        · (intro w' hSw; (try dsimp only at hSw); go_simp; try with_reducible rfl)
        try simp only [Act.put, List.setIfInBounds_toArray, List.set_cons_zero, List.set_cons_succ, List.getElem_toArray, List.getElem_cons_zero, List.getElem_cons_succ]
        refine wpAnyH_take (i := 1) (v := ?_) rfl (by kernel_rfl) (by kernel_rfl) (by kernel_rfl) (fun _ _ _ h => h) (Or.inl ⟨by rfl, ?_⟩) (by assumption) ?_
        rotate_left 1
        · (intro w' hSw; (try dsimp only at hSw); go_simp; try with_reducible rfl)
        try simp only [Act.put, List.setIfInBounds_toArray, List.set_cons_zero, List.set_cons_succ, List.getElem_toArray, List.getElem_cons_zero, List.getElem_cons_succ]
        refine wpAnyH_take (i := 2) (v := ?_) rfl (by kernel_rfl) (by kernel_rfl) (by kernel_rfl) (fun _ _ _ h => h) (Or.inl ⟨by rfl, ?_⟩) (by assumption) ?_
        rotate_left 1
        · (intro w' hSw; (try dsimp only at hSw); go_simp; try with_reducible rfl)
        try simp only [Act.put, List.setIfInBounds_toArray, List.set_cons_zero, List.set_cons_succ, List.getElem_toArray, List.getElem_cons_zero, List.getElem_cons_succ]
        refine wpAnyH_take (i := 3) (v := ?_) rfl (by kernel_rfl) (by kernel_rfl) (by kernel_rfl) (fun _ _ _ h => h) (Or.inl ⟨by rfl, ?_⟩) (by assumption) ?_
        rotate_left 1
        · (intro w' hSw; (try dsimp only at hSw); go_simp; try with_reducible rfl)
        try simp only [Act.put, List.setIfInBounds_toArray, List.set_cons_zero, List.set_cons_succ, List.getElem_toArray, List.getElem_cons_zero, List.getElem_cons_succ]
        refine wpAnyH_take (i := 4) (v := ?_) rfl (by kernel_rfl) (by kernel_rfl) (by kernel_rfl) (fun _ _ _ h => h) (Or.inl ⟨by rfl, ?_⟩) (by assumption) ?_
        rotate_left 1
        · (intro w' hSw; (try dsimp only at hSw); go_simp; try with_reducible rfl)
        try simp only [Act.put, List.setIfInBounds_toArray, List.set_cons_zero, List.set_cons_succ, List.getElem_toArray, List.getElem_cons_zero, List.getElem_cons_succ]
        refine wpAnyH_take (i := 5) (v := ?_) rfl (by kernel_rfl) (by kernel_rfl) (by kernel_rfl) (fun _ _ _ h => h) (Or.inl ⟨by rfl, ?_⟩) (by assumption) ?_
        rotate_left 1
        · (intro w' hSw; (try dsimp only at hSw); go_simp; try with_reducible rfl)
        try simp only [Act.put, List.setIfInBounds_toArray, List.set_cons_zero, List.set_cons_succ, List.getElem_toArray, List.getElem_cons_zero, List.getElem_cons_succ]
        refine wpAnyH_take (i := 6) (v := ?_) rfl (by kernel_rfl) (by kernel_rfl) (by kernel_rfl) (fun _ _ _ h => h) (Or.inl ⟨by rfl, ?_⟩) (by assumption) ?_
        rotate_left 1
        · (intro w' hSw; (try dsimp only at hSw); go_simp; try with_reducible rfl)
        try simp only [Act.put, List.setIfInBounds_toArray, List.set_cons_zero, List.set_cons_succ, List.getElem_toArray, List.getElem_cons_zero, List.getElem_cons_succ]
        refine wpAnyH_take (i := 7) (v := ?_) rfl (by kernel_rfl) (by kernel_rfl) (by kernel_rfl) (fun _ _ _ h => h) (Or.inl ⟨by rfl, ?_⟩) (by assumption) ?_
        rotate_left 1
        · (intro w' hSw; (try dsimp only at hSw); go_simp; try with_reducible rfl)
        try simp only [Act.put, List.setIfInBounds_toArray, List.set_cons_zero, List.set_cons_succ, List.getElem_toArray, List.getElem_cons_zero, List.getElem_cons_succ]
        refine wpAnyH_take (i := 8) (v := ?_) rfl (by kernel_rfl) (by kernel_rfl) (by kernel_rfl) (fun _ _ _ h => h) (Or.inl ⟨by rfl, ?_⟩) (by assumption) ?_
        rotate_left 1
        · (intro w' hSw; (try dsimp only at hSw); go_simp; try with_reducible rfl)
        try simp only [Act.put, List.setIfInBounds_toArray, List.set_cons_zero, List.set_cons_succ, List.getElem_toArray, List.getElem_cons_zero, List.getElem_cons_succ]
        refine wpAnyH_take (i := 9) (v := ?_) rfl (by kernel_rfl) (by kernel_rfl) (by kernel_rfl) (fun _ _ _ h => h) (Or.inl ⟨by rfl, ?_⟩) (by assumption) ?_
        rotate_left 1
        · (intro w' hSw; (try dsimp only at hSw); go_simp; try with_reducible rfl)
        try simp only [Act.put, List.setIfInBounds_toArray, List.set_cons_zero, List.set_cons_succ, List.getElem_toArray, List.getElem_cons_zero, List.getElem_cons_succ]
        refine wpAnyH_take (i := 10) (v := ?_) rfl (by kernel_rfl) (by kernel_rfl) (by kernel_rfl) (fun _ _ _ h => h) (Or.inl ⟨by rfl, ?_⟩) (by assumption) ?_
        rotate_left 1
        · (intro w' hSw; (try dsimp only at hSw); go_simp; try with_reducible rfl)
        try simp only [Act.put, List.setIfInBounds_toArray, List.set_cons_zero, List.set_cons_succ, List.getElem_toArray, List.getElem_cons_zero, List.getElem_cons_succ]
        refine wpAnyH_done (by kernel_rfl) ?_ _
        go_wp2
        go_ret
        exact ⟨rfl, (GC.out.trans KW.out).toBelow⟩

set_option maxRecDepth 100000 in
theorem lifted (os : Os) (started : os.Started) (H : Type) (enc : TypeId × Value → H) :
    ReturnsInHanded {} Try.checked os 3 .any (Rows.fnFoldWordSpec.pre6 enc Try.prog Try.f3 Rows.fnFoldWordRow.domain false) (Rows.fnFoldWordSpec.post enc Try.prog Try.f3 false true false false) := by
  refine returnsInHanded_of_change (C := Try.checked) own started (by kernel_rfl) Try.func3
    (ChangeSpec.witness6 (enc := enc) (C := Try.checked) false ⟨#[], #[.slice none 0 0, .slice none 0 0], []⟩ 8 (by kernel_rfl) (by kernel_rfl) (by kernel_rfl) (by kernel_rfl)) ?_
  intro W base args ds gs before hval0 hW hcnd _
  have hval : ∀ (j : Nat) t v, Try.f3.params[j]? = some t → args[j]? = some v → Value.okWide Try.prog W .any base t v := hval0
  have hW' := hW
  obtain ⟨p, q, hA0, hV, rfl, hfz, hnd⟩ := hW
  have hA : DataW.TrodAll enc Try.prog W 0 (fun _ => true) true Try.f3.params.toList args.toList ds p := hA0
  rw [Try.params3] at hA hval
  obtain ⟨v0, vs0, d0, ds0, p0, q0, hargs, rfl, rfl, h0, r0⟩ := trodAll_cons hA
  obtain ⟨v1, vs1, d1, ds1, p1, q1, rfl, rfl, rfl, h1, r1⟩ := trodAll_cons r0
  obtain ⟨rfl, rfl, rfl⟩ := trodAll_nil r1
  obtain rfl : args = #[v0, v1] := by cases args; simp_all
  obtain ⟨rfl, rfl⟩ := trodVars_none hV
  obtain ⟨a0, len0, cap0, rfl⟩ := okWide_slice Try.underlying22 (hval 0 22 v0 rfl rfl)
  have k0 := h0
  have lt0 : ∀ x ∈ p0, x.block < W.heap.size := by obtain ⟨m, hm⟩ := k0; exact DataW.trod_lt m _ _ _ hm
  obtain ⟨z0, w0⟩ : ∃ zs, IsRow .u8 W a0 len0 cap0 zs := by
    obtain ⟨fuel, hf⟩ := h0
    rcases open_ints Try.underlying22 Try.underlying5 (by kernel_rfl) hf with ⟨hcs, _⟩ | ⟨x, l, c, zs, hcs, _, hl, hm, hz, _, hcell, hwz⟩
    · simp [Value.cells] at hcs
      obtain ⟨rfl, rfl, rfl⟩ := hcs
      exact ⟨[], .inl ⟨rfl, rfl, rfl, rfl⟩⟩
    · simp [Value.cells] at hcs
      obtain ⟨rfl, rfl, rfl⟩ := hcs
      exact ⟨zs, .inr ⟨_, rfl, hl, hm, by simpa using hz, hcell, hwz⟩⟩
  obtain ⟨a1, len1, cap1, rfl⟩ := okWide_slice Try.underlying22 (hval 1 22 v1 rfl rfl)
  have k1 := h1
  have lt1 : ∀ x ∈ p1, x.block < W.heap.size := by obtain ⟨m, hm⟩ := k1; exact DataW.trod_lt m _ _ _ hm
  obtain ⟨z1, w1⟩ : ∃ zs, IsRow .u8 W a1 len1 cap1 zs := by
    obtain ⟨fuel, hf⟩ := h1
    rcases open_ints Try.underlying22 Try.underlying5 (by kernel_rfl) hf with ⟨hcs, _⟩ | ⟨x, l, c, zs, hcs, _, hl, hm, hz, _, hcell, hwz⟩
    · simp [Value.cells] at hcs
      obtain ⟨rfl, rfl, rfl⟩ := hcs
      exact ⟨[], .inl ⟨rfl, rfl, rfl, rfl⟩⟩
    · simp [Value.cells] at hcs
      obtain ⟨rfl, rfl, rfl⟩ := hcs
      exact ⟨zs, .inr ⟨_, rfl, hl, hm, by simpa using hz, hcell, hwz⟩⟩
  clear hA0 hval0
  refine (walk a0 len0 cap0 z0 a1 len1 cap1 z1 W w0 w1).mono fun e W' ⟨he, bel⟩ => ?_
  subst he
  exact ⟨_, rfl, _, _, _, [], _, [], hW', trodAll_mk1 (shut_bool Try.underlying4 _), (trodAll_cons_mk (Below.trod laidOut (by kernel_rfl) (of_decide_eq_true (by kernel_rfl)) k0 bel lt0) (trodAll_cons_mk (Below.trod laidOut (by kernel_rfl) (of_decide_eq_true (by kernel_rfl)) k1 bel lt1) trodAll_mk0)), rfl, bel.frame _, fun h => by cases h⟩

theorem over : Rows.fnFoldWordRow.holds Try.pinned (OpenSpec.ofChange Rows.fnFoldWordSpec) :=
  OpenClaim.holds_of_wide 3 Try.f3 rfl rfl rfl rfl rfl rfl rfl ⟨rfl, rfl, rfl, rfl, rfl⟩ rfl rfl rfl rfl rfl (by kernel_rfl) Try.func3 (by kernel_rfl)
    (of_decide_eq_true (by kernel_rfl)) (by unfold Func.isWrapper; first | (rw [if_pos (by decide +kernel)]; kernel_rfl) | (rw [if_neg (by decide +kernel)]; exact ⟨rfl, rfl⟩))
    (fun os started H enc _ => lifted os started H enc)

end Go.Proofs.Ytagjffjdoimhbad.fnFoldWord
namespace Go.Proofs.Ytagjffjdoimhbad
theorem FnFoldWord_holds : Rows.FnFoldWordSaid := fnFoldWord.over
#print axioms FnFoldWord_holds
end Go.Proofs.Ytagjffjdoimhbad
