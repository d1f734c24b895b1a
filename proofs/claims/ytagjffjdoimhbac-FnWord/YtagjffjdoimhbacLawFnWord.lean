/- For all codes (slices of bytes): the law FnWord holds: a word is one, also behind a fold; with a value changed it is none. No condition. -/
import Derived.Test.YtagjffjdoimhbacRows
import Derived.WalkKit
import Derived.ProofKit
import Derived.OpenShut
import Derived.Test.YtagjffjdoimhbacWrdK
import Derived.Test.YtagjffjdoimhbacBdq
import Derived.Test.YtagjffjdoimhbacBdb
import Derived.Test.YtagjffjdoimhbacStepL
import Derived.Test.YtagjffjdoimhbacLawQ
import Derived.ShutString
import Derived.ChangeOld
import Derived.Below
namespace Go.Proofs.Ytagjffjdoimhbac.fnWord
open Go.ChangeShapes Go.WideShapes Go.ChangeAt Go.RowKit
open Go.ChangeMaps (open_string shut_string)
set_option linter.unusedVariables false

theorem own : ownKnob Try.prog.godebug = none := by kernel_rfl
theorem laidOut : laidOutB Try.prog = true := by kernel_rfl

/-- WHAT THE WALK IS TOLD OF A SLICE OF INTEGERS THAT CAME IN: it is nil; or it leads to a row of 'cap' cells, the numbers 'zs' (the first 'len' are its elements, the rest its spare room), each fitting its kind. -/
def IsRow (k : IntKind) (w : World) (a : Option Addr) (len cap : Nat) (zs : List Int) : Prop :=
  (a = none ∧ len = 0 ∧ cap = 0 ∧ zs = []) ∨
  ∃ x, a = some x ∧ len ≤ cap ∧ cap ≤ maxLen ∧ zs.length = cap ∧ (∀ i, i < zs.length → w.cell? (x.add i) = some (.int k (zs.getD i 0))) ∧ ∀ n ∈ zs, (Lit.int k n).wf = true

set_option linter.unusedSimpArgs false
set_option linter.unusedVariables false
set_option maxRecDepth 100000 in
set_option maxHeartbeats 4000000 in
theorem walk (a0 : Option Addr) (len0 cap0 : Nat) (z0 : List Int) (a1 : Option Addr) (len1 cap1 : Nat) (z1 : List Int) (w : World) (w0 : IsRow .u8 w a0 len0 cap0 z0) (w1 : IsRow .u8 w a1 len1 cap1 z1) :
    Calls Try.prog 8 #[.slice a0 len0 cap0, .slice a1 len1 cap1] w fun e w' => e = .returned (.bool true) ∧ Below w.heap.size w w' := by
  obtain ⟨hB0, hl0⟩ := bytes_of_row w0
  obtain ⟨hB1, hl1⟩ := bytes_of_row w1
  have HB0 := hide hB0
  have HB1 := hide hB1
  clear w0 w1 hB0 hB1
  by_cases hm : 1048576 < len0
  · have hm' : 1048576 < (len0 : Int) := by omega
    go_enter Try.func8, Try.ntmps8
    go_wp2_with fail
    go_ret
    exact ⟨rfl, Below.refl _ _⟩
  by_cases hn : 1048576 < len1
  · have hm' : ¬ 1048576 < (len0 : Int) := by omega
    have hn' : 1048576 < (len1 : Int) := by omega
    go_enter Try.func8, Try.ntmps8
    go_wp2_with fail
    go_ret
    exact ⟨rfl, Below.refl _ _⟩
  have hm' : ¬ 1048576 < (len0 : Int) := by omega
  have hn' : ¬ 1048576 < (len1 : Int) := by omega
  obtain ⟨i0, hi, hz0, hz1, hz2⟩ := info_parts infoExt
  have HI := hide hi
  have HZ0 := hide hz0
  have HZ1 := hide hz1
  have HZ2 := hide hz2
  clear hi hz0 hz1 hz2
  go_enter Try.func8, Try.ntmps8
  go_wp2_with fail
  refine (at_pl a1 len1 cap1 0 3 _ HB1.out hl1 (by omega) (by omega) (by omega)).mono ?_
  rintro e W1 ⟨m, rfl, hm3, k1⟩
  have G1 := hide k1
  clear k1
  obtain ⟨n, hn⟩ : ∃ n, n = m + 1 := ⟨_, rfl⟩
  have hwn : IntKind.i64.wrap (1 + (m : Int)) = (n : Int) := by rw [IntKind.wrap_i64]; omega
  have HNM := hide hn
  have hn3 : n ≤ 3 := by omega
  clear hn
  go_wp2_with fail
  refine (at_pl a1 len1 cap1 1 3 _ (HB1.out.below G1.out.toBelow) hl1 (by omega) (by omega) (by omega)).mono ?_
  rintro e W1' ⟨j, rfl, hj3, k1⟩
  replace G1 := hide (G1.out.trans k1)
  clear k1
  obtain ⟨q, hq⟩ : ∃ q, q = 1 + j := ⟨_, rfl⟩
  have hwq : IntKind.i64.wrap (1 + (j : Int)) = (q : Int) := by rw [IntKind.wrap_i64]; omega
  have hq3 : q ≤ 3 := by omega
  have hq1 : 1 ≤ q := by omega
  clear hq
  obtain ⟨M, hM⟩ : ∃ M, M = 2 ^ n := ⟨_, rfl⟩
  have HM := hide hM
  have hM8 : M ≤ 8 := by rw [hM]; exact Nat.le_trans (Nat.pow_le_pow_right (by omega) hn3) (by decide)
  have hM1 : 1 ≤ M := by rw [hM]; exact Nat.one_le_two_pow
  have hpw : (2 : Int) ^ n = (M : Int) := by rw [hM]; simp
  have hn0 : (0 : Int) ≤ (n : Int) := by omega
  obtain ⟨Q, hQ⟩ : ∃ Q, Q = 2 ^ m := ⟨_, rfl⟩
  have HMQ := hide (show M = 2 * Q by rw [hM, HNM.out, Nat.pow_succ, hQ, Nat.mul_comm])
  have HQ := hide hQ
  obtain ⟨L, hL⟩ : ∃ L, L = m + q := ⟨_, rfl⟩
  have HL := hide hL
  have hL5 : L ≤ 5 := by omega
  obtain ⟨H, hH⟩ : ∃ H, H = 2 ^ L := ⟨_, rfl⟩
  have HH := hide hH
  obtain ⟨Z, hZ⟩ : ∃ Z, Z = M * 2 ^ q := ⟨_, rfl⟩
  have HZP := hide (show Z = 2 ^ (L + 1) by rw [hZ, hM, ← Nat.pow_add, HNM.out, hL]; congr 1; omega)
  have HZ := hide hZ
  have HZH := hide (show Z = 2 * H by rw [HZP.out, Nat.pow_succ, hH, Nat.mul_comm])
  have hH32 : H ≤ 32 := by rw [hH]; exact Nat.le_trans (Nat.pow_le_pow_right (by omega) hL5) (by decide)
  have hH1 : 1 ≤ H := by rw [hH]; exact Nat.one_le_two_pow
  have hZ64 : Z ≤ 64 := by have := HZH.out; omega
  have hZ1 : 1 ≤ Z := by have := HZH.out; omega
  have HMZ := hide (show M < Z by
    have h2 : 2 ≤ 2 ^ q := Nat.le_trans (show 2 ≤ 2 ^ 1 by decide) (Nat.pow_le_pow_right (by omega) hq1)
    have h3 : M * 2 ≤ M * 2 ^ q := Nat.mul_le_mul_left M h2
    rw [← hZ] at h3
    omega)
  have hsh : IntKind.i64.wrap ((M : Int) * 2 ^ q) = (Z : Int) := by rw [hZ]; exact shl9 (by omega) (by omega)
  have hq0 : (0 : Int) ≤ (q : Int) := by omega
  have hwqu : IntKind.u64.wrap (q : Int) = (q : Int) := by rw [IntKind.wrap_u64]; omega
  clear hM hQ hL hH hZ
  go_wp2_with fail
  refine (extsOf_any a0 len0 cap0 M _ (HB0.out.below G1.out.toBelow) hl0 (by omega)).mono ?_
  rintro e W2 ⟨f, g, ct, capt, rfl, hP, hO, k2⟩
  obtain ⟨co, hco⟩ : ∃ co, co = elF f g := ⟨_, rfl⟩
  have T2 := hide (show PairE W2 ct M co by rw [hco]; exact PairE.of hP hO)
  have G2 := hide (G1.out.trans k2)
  clear k2 hP hO hco G1
  obtain ⟨cf, hcf⟩ : ∃ cf, cf = fitE co M zE := ⟨_, rfl⟩
  have HCF := hide hcf
  obtain ⟨V, hV⟩ : ∃ V, V = El.nt (L + 1) cf (El.rtE (L + 1)) := ⟨_, rfl⟩
  have HV := hide hV
  have QI := hide (fun (c : Option Addr) (cap : Nat) (w' : World) (h : Hid (PairE w' c M co)) => enc_el c M n q Z cap HM.out HZ.out co w' h (by omega))
  have QS := hide (fun (c : Option Addr) (cap : Nat) (w' : World) (h : Hid (PairE w' c M co)) => sEnc_el c M n q Z cap HM.out HZ.out co w' h (by omega))
  rw [show n + q = L + 1 by have := HNM.out; have := HL.out; omega, ← hcf, ← hV] at QI QS
  clear hcf hV
  have QW := hide (fun (c : Option Addr) (cap : Nat) (t : Nat → El) (w' : World) (h : Hid (PairE w' c Z t)) => isw_el c Z n q cap (show Z = 2 ^ (n + q) by rw [HZP.out]; congr 1; have := HNM.out; have := HL.out; omega) t w' h (by omega))
  rw [show n + q = L + 1 by have := HNM.out; have := HL.out; omega, ← HM.out] at QW
  have HT1 := hide (show wdb (El.bk (L + 1) V (El.rtE (L + 1))) M Z = true by rw [HV.out]; exact word_is (by omega) HZP.out (fun j h => by rw [HCF.out]; exact fit_zero h))
  have HT2 := hide (show ∀ k, k < Z → wdb (El.bk (L + 1) (upE V k (El.ad (V k) El.on)) (El.rtE (L + 1))) M Z = false from fun k hk => by rw [HV.out]; exact word_bent (by omega) HZP.out HMZ.out hk (fun j h => by rw [HCF.out]; exact fit_zero h))
  go_wp2_with fail
  refine (QI.out ct capt _ T2).mono ?_
  rintro e W3 ⟨cv, capv, rfl, hcv, hcvm, o3, k3⟩
  have V3 := hide (show PairE W3 cv Z V from OwnE.pairs o3)
  have T3 := hide (T2.out.keep k3)
  have G3 := hide (G2.out.trans k3)
  clear o3 k3 G2 T2 QI
  go_wp2_with fail
  refine (QS.out ct capt _ T3).mono ?_
  rintro e W4 ⟨cw, capw, rfl, hcw, hcwm, o4, k4⟩
  have S4 := hide (show PairE W4 cw Z V from OwnE.pairs o4)
  have V4 := hide (V3.out.keep k4)
  have G4 := hide (G3.out.trans k4)
  clear o4 k4 G3 T3 V3 QS
  go_wp2_with fail
  refine (QW.out cv capv V _ V4).mono ?_
  rintro e W5 ⟨rfl, k5⟩
  rw [HT1.out]
  have S5 := hide (S4.out.keep k5)
  have V5 := hide (V4.out.keep k5)
  have G5 := hide (G4.out.trans k5)
  clear k5 S4 V4 G4
  go_wp2_with fail
  refine (sameExts_any cv cw Z Z capv capw (cA V) (cB V) (cA V) (cB V) _ V5 S5 rfl (fun _ _ => ⟨rfl, rfl⟩) (by omega)).mono ?_
  rintro e W6 ⟨rfl, k6⟩
  have V6 := hide (V5.out.keep k6)
  have G6 := hide (G5.out.trans k6)
  clear k6 S5 V5 G5
  go_wp2_with fail
  refine (extOf_any a1 len1 cap1 _ (HB1.out.below G6.out.toBelow) hl1).mono ?_
  rintro e W7 ⟨xa, xb, rfl, hxo, k7⟩
  obtain ⟨r, hxa, hxb⟩ : ∃ r : El, xa = r.v.1 ∧ xb = r.v.2 := ⟨elP xa xb, by rw [elP_v hxo], by rw [elP_v hxo]⟩
  subst hxa hxb
  have kA := hide (k7.alloc (.cells #[.int .i64 r.v.1, .int .i64 r.v.2] 31))
  have X7 := hide (ElB.new W7 r)
  have V7 := hide (V6.out.keep kA.out)
  have G7 := hide (G6.out.trans kA.out)
  clear k7 kA V6 G6 hxo
  have x0 := X7.out.c0
  have x1 := X7.out.c1
  obtain ⟨F, hF⟩ : ∃ F, F = El.nt L (El.flC cf r) (El.rtE L) := ⟨_, rfl⟩
  have HF := hide (show ∀ i, i < H → fwE (L + 1) H V r i = F i from fun i hi => by rw [hF, HV.out]; exact fold_is (by omega) HH.out r hi)
  have HT3 := hide (show wdb (El.bk L F (El.rtE L)) Q H = true by rw [hF]; exact word_is (by omega) HH.out (fun j h => by rw [HCF.out]; exact flC_zero HMQ.out h))
  have QF := hide (fun (c : Option Addr) (cap : Nat) (w' : World) (h : Hid (PairE w' c H F)) => isw_el c H m q cap (show H = 2 ^ (m + q) by rw [HH.out, HL.out]) F w' h (by have := HL.out; omega))
  rw [← HL.out, ← HQ.out, HT3.out] at QF
  clear hF HT3
  go_wp2_with fail
  refine (fold_el9 cv Z H L capv HZH.out HH.out V r _ V7 (by omega) hcv hcvm).mono ?_
  rintro e W8 q8
  obtain ⟨cg, capg, rfl, hcg, hcgm, o8, k8⟩ := q8.eq rfl rfl HF.out
  have F8 := hide (show PairE W8 cg H F from OwnE.pairs o8)
  have V8 := hide (V7.out.keep k8)
  have G8 := hide (G7.out.trans k8)
  clear q8 o8 k8 V7 X7 G7 x0 x1 HF
  go_wp2_with fail
  refine (QF.out cg capg _ F8).mono ?_
  rintro e W9 ⟨rfl, k9⟩
  have V9 := hide (V8.out.keep k9)
  have G9 := hide (G8.out.trans k9)
  clear k9 V8 G8 F8 QF
  have hmul : IntKind.i64.wrap ((H : Int) * 2) = (Z : Int) := by rw [IntKind.wrap_i64]; have := HZH.out; omega
  go_wp2_with (at_builtin; refine wpList_append_pairs _ (.tmp 120) (.tmp 121) 24 rfl rfl i0 Try.underlying24 HI.out HZ0.out HZ1.out HZ2.out W9.heap.size (by simp) rfl cv Z capv (cA V) (cB V) rfl (PairE.keep V9.out ((Chg.refl nob W9).alloc _)) (by omega) ?_)
  intro cb capb W10 ho hcb hcbm k10
  obtain ⟨b, Mb, hh, ecb, hbb, r10⟩ := RowX.of_own ho hZ1
  subst ecb
  have R10 := hide r10
  have G10 := hide (G9.out.trans (((Chg.refl nob W9).alloc _).trans k10))
  have hbw : W9.heap.size < b := by omega
  have h9s : w.heap.size ≤ W9.heap.size := G9.out.size
  clear ho k10 r10 hbb V9 G9
  go_wp2_with fail
  refine (at_pl a1 len1 cap1 2 Z _ (HB1.out.below G10.out.toBelow) hl1 (by omega) (by omega) (by omega)).mono ?_
  rintro e W11 ⟨k, rfl, hkZ, k11⟩
  have R11 := hide (R10.out.keep k11)
  have G11 := hide (G10.out.trans k11)
  clear k11 R10 G10
  have hk1 : (k : Int) < (Z : Int) := by omega
  have hk0 : (0 : Int) ≤ (k : Int) := by omega
  have b0 := R11.out.c0 hkZ
  have b1 := R11.out.c1 hkZ
  have hbl : b < W11.heap.size := R11.out.lt
  go_upto_region 18 with fail
  go_cut [21, 22] (fun p c W => ∃ gg : Nat, p = .pointer (some ⟨gg, 0, none⟩) ∧ c = .int .i64 0 ∧ Hid (W11.heap.size ≤ gg) ∧ Hid (ElB W gg (El.ad (V k) El.on)) ∧ Hid (Chg nob W11 W))
  case first =>
    have KW := hide ((Chg.refl nob W11).drew1)
    have SA := hide (fun (WW : World) (kW : Chg nob W11 WW) => (show (WW.cell? ⟨b, k * 2, none⟩ = some (.int .i64 (V k).v.1) ∧ WW.cell? ⟨b, k * 2 + 1, none⟩ = some (.int .i64 (V k).v.2)) from ⟨kW.see b0, kW.see b1⟩))
    refine wp_region_held_drew (S := fun w' => w'.cell? ⟨b, k * 2, none⟩ = some (.int .i64 (V k).v.1) ∧ w'.cell? ⟨b, k * 2 + 1, none⟩ = some (.int .i64 (V k).v.2)) (by kernel_rfl) ⟨b0, b1⟩ (fun hHeld => ?_)
    refine wpAnyH_take (i := 0) (v := ?_) rfl (by kernel_rfl) (by kernel_rfl) (by kernel_rfl) (fun _ _ _ h => h) (Or.inl ⟨by rfl, ?_⟩) (by assumption) ?_
    rotate_left 1
    · (intro w' hSw; (try dsimp only at hSw); go_simp; try with_reducible rfl)
    try simp only [Act.put, List.setIfInBounds_toArray, List.set_cons_zero, List.set_cons_succ, List.getElem_toArray, List.getElem_cons_zero, List.getElem_cons_succ]
    refine wpAnyH_take (i := 1) (v := ?_) rfl (by kernel_rfl) (by kernel_rfl) (by kernel_rfl) (fun _ _ _ h => h) (Or.inl ⟨by rfl, ?_⟩) (by assumption) ?_
    rotate_left 1
    · (intro w' hSw; (try dsimp only at hSw); go_simp; try with_reducible rfl)
    try simp only [Act.put, List.setIfInBounds_toArray, List.set_cons_zero, List.set_cons_succ, List.getElem_toArray, List.getElem_cons_zero, List.getElem_cons_succ]
    refine wpAnyH_take (i := 2) (v := ?_) rfl (by kernel_rfl) (by kernel_rfl) (by kernel_rfl) (fun _ _ _ h => h) (Or.inl ⟨by rfl, ?_⟩) (by assumption) ?_
    rotate_left 1
    · (intro w' hSw; (try dsimp only at hSw); go_simp; try with_reducible rfl)
    try simp only [Act.put, List.setIfInBounds_toArray, List.set_cons_zero, List.set_cons_succ, List.getElem_toArray, List.getElem_cons_zero, List.getElem_cons_succ]
    refine wpAnyH_take (i := 3) (v := ?_) rfl (by kernel_rfl) (by kernel_rfl) (by kernel_rfl) (fun _ _ _ h => h) (Or.inl ⟨by rfl, ?_⟩) (by assumption) ?_
    rotate_left 1
    · (intro w' hSw; (try dsimp only at hSw); go_simp; try with_reducible rfl)
    try simp only [Act.put, List.setIfInBounds_toArray, List.set_cons_zero, List.set_cons_succ, List.getElem_toArray, List.getElem_cons_zero, List.getElem_cons_succ]
    refine wpAnyH_ready (rs := [4, 9]) (by kernel_rfl) (by simp) ?_
    refine AllReadyH.cons rfl (fun K hK => ?_) ?_
    · refine stepL_callN 16 #[] #[] (by rfl) (by rfl) #[] (by simp only [List.map_toArray, List.map_cons, List.map_nil] <;> rfl) (run_go Try.func16 (by kernel_rfl) (by kernel_rfl) _ _) (oneC_any _) ?_
      rintro e VV1 ⟨he, kk⟩
      refine ⟨_, he, ?_⟩
      replace KW := hide (KW.out.trans kk)
      refine hK.out _ _ (SA.out _ KW.out) (fun hHeld => ?_)
      clear hK K
      try simp only [Act.put, List.setIfInBounds_toArray, List.set_cons_zero, List.set_cons_succ, List.getElem_toArray, List.getElem_cons_zero, List.getElem_cons_succ]
      clear he kk
      refine wpAnyH_ready (rs := [5, 9]) (by kernel_rfl) (by simp) ?_
      refine AllReadyH.cons rfl (fun K hK => ?_) ?_
      · refine stepL_callN 14 #[.tmp 131, .tmp 132] #[31, 31] (by rfl) (by rfl) #[.agg #[.int .i64 (V k).v.1, .int .i64 (V k).v.2], .agg #[.int .i64 1, .int .i64 0]] (by simp only [List.map_toArray, List.map_cons, List.map_nil] <;> rfl) (run_go Try.func14 (by kernel_rfl) (by kernel_rfl) _ _) (exAd_el (V k) El.on _) ?_
        rintro e VV2 ⟨he, kk⟩
        refine ⟨_, he, ?_⟩
        replace KW := hide (KW.out.trans kk)
        refine hK.out _ _ (SA.out _ KW.out) (fun hHeld => ?_)
        clear hK K
        try simp only [Act.put, List.setIfInBounds_toArray, List.set_cons_zero, List.set_cons_succ, List.getElem_toArray, List.getElem_cons_zero, List.getElem_cons_succ]
        clear he kk
        refine wpAnyH_take (i := 6) (v := ?_) rfl (by kernel_rfl) (by kernel_rfl) (by kernel_rfl) (fun _ _ _ h => h) (Or.inl ⟨by rfl, ?_⟩) (by assumption) ?_
        rotate_left 1
        · (intro w' hSw; (try dsimp only at hSw); go_simp; try with_reducible rfl)
        try simp only [Act.put, List.setIfInBounds_toArray, List.set_cons_zero, List.set_cons_succ, List.getElem_toArray, List.getElem_cons_zero, List.getElem_cons_succ]
        refine wpAnyH_take (i := 7) (v := ?_) rfl (by kernel_rfl) (by kernel_rfl) (by kernel_rfl) (fun _ _ _ h => h) (Or.inl ⟨by rfl, ?_⟩) (by assumption) ?_
        rotate_left 1
        · (intro w' hSw; (try dsimp only at hSw); go_simp; try with_reducible rfl)
        try simp only [Act.put, List.setIfInBounds_toArray, List.set_cons_zero, List.set_cons_succ, List.getElem_toArray, List.getElem_cons_zero, List.getElem_cons_succ]
        refine wpAnyH_take (i := 8) (v := ?_) rfl (by kernel_rfl) (by kernel_rfl) (by kernel_rfl) (fun _ _ _ h => h) (Or.inl ⟨by rfl, ?_⟩) (by assumption) ?_
        rotate_left 1
        · (intro w' hSw; (try dsimp only at hSw); go_simp; try with_reducible rfl)
        try simp only [Act.put, List.setIfInBounds_toArray, List.set_cons_zero, List.set_cons_succ, List.getElem_toArray, List.getElem_cons_zero, List.getElem_cons_succ]
        refine wpAnyH_ready (rs := [9]) (by kernel_rfl) (by simp) ?_
        refine AllReadyH.cons rfl (fun K hK => ?_) AllReadyH.nil
        simp only [List.getElem_toArray, List.getElem_cons_zero, List.getElem_cons_succ]
        go_simp
        have E7 : Hid (ElB (World.alloc VV2 (.cells #[.int .i64 0, .int .i64 0] 31)) VV2.heap.size El.zr) := hide (ElB.zero VV2)
        have lq : W11.heap.size ≤ VV2.heap.size := KW.out.size
        replace KW : Hid (Chg nob W11 (World.alloc VV2 (.cells #[.int .i64 0, .int .i64 0] 31))) := hide (KW.out.alloc _)
        generalize hUA : (World.alloc VV2 (.cells #[.int .i64 0, .int .i64 0] 31)) = UA at E7 KW ⊢
        clear hUA
        obtain ⟨gA, hgA⟩ : ∃ g, g = VV2.heap.size := ⟨_, rfl⟩
        have lA : W11.heap.size ≤ gA := by rw [hgA]; exact lq
        clear lq
        rw [← hgA] at E7 ⊢
        clear hgA
        refine hK.out _ _ (SA.out _ KW.out) (fun hHeld => ?_)
        clear hK K
        try simp only [Act.put, List.setIfInBounds_toArray, List.set_cons_zero, List.set_cons_succ, List.getElem_toArray, List.getElem_cons_zero, List.getElem_cons_succ]
        refine wpAnyH_ready (rs := [10]) (by kernel_rfl) (by simp) ?_
        refine AllReadyH.cons rfl (fun K hK => ?_) AllReadyH.nil
        have y0 := E7.out.c0
        have y1 := E7.out.c1
        have f0 := E7.out.fz 0
        have f1 := E7.out.fz 1
        have l7 := E7.out.lt
        have SS := SA.out _ KW.out
        simp only [List.getElem_toArray, List.getElem_cons_zero, List.getElem_cons_succ]
        go_simp
        refine hK.out _ _ ⟨look_two (by omega) SS.1 0 1 _ _, look_two (by omega) SS.2 0 1 _ _⟩ (fun hHeld => ?_)
        clear hK K
        try simp only [Act.put, List.setIfInBounds_toArray, List.set_cons_zero, List.set_cons_succ, List.getElem_toArray, List.getElem_cons_zero, List.getElem_cons_succ]
        clear y0 y1 f0 f1 l7 SS
        replace E7 := hide (E7.out.set (El.ad (V k) El.on))
        replace KW := hide (chg2_at KW.out gA (fun l => absurd l (by omega)) 0 1 (.int .i64 (El.ad (V k) El.on).v.1) (.int .i64 (El.ad (V k) El.on).v.2))
        generalize hUS : ((UA.setCell ⟨gA, 0, none⟩ (.int .i64 (El.ad (V k) El.on).v.1)).setCell ⟨gA, 1, none⟩ (.int .i64 (El.ad (V k) El.on).v.2)) = US at E7 KW hHeld ⊢
        clear hUS
        refine wpAnyH_take (i := 11) (v := ?_) rfl (by kernel_rfl) (by kernel_rfl) (by kernel_rfl) (fun _ _ _ h => h) (Or.inl ⟨by rfl, ?_⟩) (by assumption) ?_
        rotate_left 1
        · (intro w' hSw; (try dsimp only at hSw); go_simp; try with_reducible rfl)
        try simp only [Act.put, List.setIfInBounds_toArray, List.set_cons_zero, List.set_cons_succ, List.getElem_toArray, List.getElem_cons_zero, List.getElem_cons_succ]
        refine wpAnyH_done (by kernel_rfl) ?_ _
        go_wp2_with fail
        go_meet
        exact ⟨gA, rfl, rfl, hide lA, E7, KW⟩
      · refine AllReadyH.cons rfl (fun K hK => ?_) AllReadyH.nil
        simp only [List.getElem_toArray, List.getElem_cons_zero, List.getElem_cons_succ]
        go_simp
        have E7 : Hid (ElB (World.alloc VV1 (.cells #[.int .i64 0, .int .i64 0] 31)) VV1.heap.size El.zr) := hide (ElB.zero VV1)
        have lq : W11.heap.size ≤ VV1.heap.size := KW.out.size
        replace KW : Hid (Chg nob W11 (World.alloc VV1 (.cells #[.int .i64 0, .int .i64 0] 31))) := hide (KW.out.alloc _)
        generalize hUA : (World.alloc VV1 (.cells #[.int .i64 0, .int .i64 0] 31)) = UA at E7 KW ⊢
        clear hUA
        obtain ⟨gA, hgA⟩ : ∃ g, g = VV1.heap.size := ⟨_, rfl⟩
        have lA : W11.heap.size ≤ gA := by rw [hgA]; exact lq
        clear lq
        rw [← hgA] at E7 ⊢
        clear hgA
        refine hK.out _ _ (SA.out _ KW.out) (fun hHeld => ?_)
        clear hK K
        try simp only [Act.put, List.setIfInBounds_toArray, List.set_cons_zero, List.set_cons_succ, List.getElem_toArray, List.getElem_cons_zero, List.getElem_cons_succ]
        refine wpAnyH_ready (rs := [5]) (by kernel_rfl) (by simp) ?_
        refine AllReadyH.cons rfl (fun K hK => ?_) AllReadyH.nil
        refine stepL_callN 14 #[.tmp 131, .tmp 132] #[31, 31] (by rfl) (by rfl) #[.agg #[.int .i64 (V k).v.1, .int .i64 (V k).v.2], .agg #[.int .i64 1, .int .i64 0]] (by simp only [List.map_toArray, List.map_cons, List.map_nil] <;> rfl) (run_go Try.func14 (by kernel_rfl) (by kernel_rfl) _ _) (exAd_el (V k) El.on _) ?_
        rintro e VV2 ⟨he, kk⟩
        replace E7 := hide (E7.out.keep kk)
        refine ⟨_, he, ?_⟩
        replace KW := hide (KW.out.trans kk)
        refine hK.out _ _ (SA.out _ KW.out) (fun hHeld => ?_)
        clear hK K
        try simp only [Act.put, List.setIfInBounds_toArray, List.set_cons_zero, List.set_cons_succ, List.getElem_toArray, List.getElem_cons_zero, List.getElem_cons_succ]
        clear he kk
        refine wpAnyH_take (i := 6) (v := ?_) rfl (by kernel_rfl) (by kernel_rfl) (by kernel_rfl) (fun _ _ _ h => h) (Or.inl ⟨by rfl, ?_⟩) (by assumption) ?_
        rotate_left 1
        · (intro w' hSw; (try dsimp only at hSw); go_simp; try with_reducible rfl)
        try simp only [Act.put, List.setIfInBounds_toArray, List.set_cons_zero, List.set_cons_succ, List.getElem_toArray, List.getElem_cons_zero, List.getElem_cons_succ]
        refine wpAnyH_take (i := 7) (v := ?_) rfl (by kernel_rfl) (by kernel_rfl) (by kernel_rfl) (fun _ _ _ h => h) (Or.inl ⟨by rfl, ?_⟩) (by assumption) ?_
        rotate_left 1
        · (intro w' hSw; (try dsimp only at hSw); go_simp; try with_reducible rfl)
        try simp only [Act.put, List.setIfInBounds_toArray, List.set_cons_zero, List.set_cons_succ, List.getElem_toArray, List.getElem_cons_zero, List.getElem_cons_succ]
        refine wpAnyH_take (i := 8) (v := ?_) rfl (by kernel_rfl) (by kernel_rfl) (by kernel_rfl) (fun _ _ _ h => h) (Or.inl ⟨by rfl, ?_⟩) (by assumption) ?_
        rotate_left 1
        · (intro w' hSw; (try dsimp only at hSw); go_simp; try with_reducible rfl)
        try simp only [Act.put, List.setIfInBounds_toArray, List.set_cons_zero, List.set_cons_succ, List.getElem_toArray, List.getElem_cons_zero, List.getElem_cons_succ]
        refine wpAnyH_ready (rs := [10]) (by kernel_rfl) (by simp) ?_
        refine AllReadyH.cons rfl (fun K hK => ?_) AllReadyH.nil
        have y0 := E7.out.c0
        have y1 := E7.out.c1
        have f0 := E7.out.fz 0
        have f1 := E7.out.fz 1
        have l7 := E7.out.lt
        have SS := SA.out _ KW.out
        simp only [List.getElem_toArray, List.getElem_cons_zero, List.getElem_cons_succ]
        go_simp
        refine hK.out _ _ ⟨look_two (by omega) SS.1 0 1 _ _, look_two (by omega) SS.2 0 1 _ _⟩ (fun hHeld => ?_)
        clear hK K
        try simp only [Act.put, List.setIfInBounds_toArray, List.set_cons_zero, List.set_cons_succ, List.getElem_toArray, List.getElem_cons_zero, List.getElem_cons_succ]
        clear y0 y1 f0 f1 l7 SS
        replace E7 := hide (E7.out.set (El.ad (V k) El.on))
        replace KW := hide (chg2_at KW.out gA (fun l => absurd l (by omega)) 0 1 (.int .i64 (El.ad (V k) El.on).v.1) (.int .i64 (El.ad (V k) El.on).v.2))
        generalize hUS : ((VV2.setCell ⟨gA, 0, none⟩ (.int .i64 (El.ad (V k) El.on).v.1)).setCell ⟨gA, 1, none⟩ (.int .i64 (El.ad (V k) El.on).v.2)) = US at E7 KW hHeld ⊢
        clear hUS
        refine wpAnyH_take (i := 11) (v := ?_) rfl (by kernel_rfl) (by kernel_rfl) (by kernel_rfl) (fun _ _ _ h => h) (Or.inl ⟨by rfl, ?_⟩) (by assumption) ?_
        rotate_left 1
        · (intro w' hSw; (try dsimp only at hSw); go_simp; try with_reducible rfl)
        try simp only [Act.put, List.setIfInBounds_toArray, List.set_cons_zero, List.set_cons_succ, List.getElem_toArray, List.getElem_cons_zero, List.getElem_cons_succ]
        refine wpAnyH_done (by kernel_rfl) ?_ _
        go_wp2_with fail
        go_meet
        exact ⟨gA, rfl, rfl, hide lA, E7, KW⟩
    · refine AllReadyH.cons rfl (fun K hK => ?_) AllReadyH.nil
      simp only [List.getElem_toArray, List.getElem_cons_zero, List.getElem_cons_succ]
      go_simp
      have E7 : Hid (ElB (World.alloc W11 (.cells #[.int .i64 0, .int .i64 0] 31)).drew W11.heap.size El.zr) := hide (ElB.keep (ElB.zero W11) (Chg.refl nob _).drew1)
      have lq : W11.heap.size ≤ W11.heap.size := Nat.le_refl _
      replace KW : Hid (Chg nob W11 (World.alloc W11 (.cells #[.int .i64 0, .int .i64 0] 31)).drew) := hide (((Chg.refl nob W11).alloc _).drew1)
      generalize hUA : (World.alloc W11 (.cells #[.int .i64 0, .int .i64 0] 31)).drew = UA at E7 KW ⊢
      clear hUA
      obtain ⟨gA, hgA⟩ : ∃ g, g = W11.heap.size := ⟨_, rfl⟩
      have lA : W11.heap.size ≤ gA := by rw [hgA]; exact lq
      clear lq
      rw [← hgA] at E7 ⊢
      clear hgA
      refine hK.out _ _ (SA.out _ KW.out) (fun hHeld => ?_)
      clear hK K
      try simp only [Act.put, List.setIfInBounds_toArray, List.set_cons_zero, List.set_cons_succ, List.getElem_toArray, List.getElem_cons_zero, List.getElem_cons_succ]
      refine wpAnyH_ready (rs := [4]) (by kernel_rfl) (by simp) ?_
      refine AllReadyH.cons rfl (fun K hK => ?_) AllReadyH.nil
      refine stepL_callN 16 #[] #[] (by rfl) (by rfl) #[] (by simp only [List.map_toArray, List.map_cons, List.map_nil] <;> rfl) (run_go Try.func16 (by kernel_rfl) (by kernel_rfl) _ _) (oneC_any _) ?_
      rintro e VV1 ⟨he, kk⟩
      replace E7 := hide (E7.out.keep kk)
      refine ⟨_, he, ?_⟩
      replace KW := hide (KW.out.trans kk)
      refine hK.out _ _ (SA.out _ KW.out) (fun hHeld => ?_)
      clear hK K
      try simp only [Act.put, List.setIfInBounds_toArray, List.set_cons_zero, List.set_cons_succ, List.getElem_toArray, List.getElem_cons_zero, List.getElem_cons_succ]
      clear he kk
      refine wpAnyH_ready (rs := [5]) (by kernel_rfl) (by simp) ?_
      refine AllReadyH.cons rfl (fun K hK => ?_) AllReadyH.nil
      refine stepL_callN 14 #[.tmp 131, .tmp 132] #[31, 31] (by rfl) (by rfl) #[.agg #[.int .i64 (V k).v.1, .int .i64 (V k).v.2], .agg #[.int .i64 1, .int .i64 0]] (by simp only [List.map_toArray, List.map_cons, List.map_nil] <;> rfl) (run_go Try.func14 (by kernel_rfl) (by kernel_rfl) _ _) (exAd_el (V k) El.on _) ?_
      rintro e VV2 ⟨he, kk⟩
      replace E7 := hide (E7.out.keep kk)
      refine ⟨_, he, ?_⟩
      replace KW := hide (KW.out.trans kk)
      refine hK.out _ _ (SA.out _ KW.out) (fun hHeld => ?_)
      clear hK K
      try simp only [Act.put, List.setIfInBounds_toArray, List.set_cons_zero, List.set_cons_succ, List.getElem_toArray, List.getElem_cons_zero, List.getElem_cons_succ]
      clear he kk
      refine wpAnyH_take (i := 6) (v := ?_) rfl (by kernel_rfl) (by kernel_rfl) (by kernel_rfl) (fun _ _ _ h => h) (Or.inl ⟨by rfl, ?_⟩) (by assumption) ?_
      rotate_left 1
      · (intro w' hSw; (try dsimp only at hSw); go_simp; try with_reducible rfl)
      try simp only [Act.put, List.setIfInBounds_toArray, List.set_cons_zero, List.set_cons_succ, List.getElem_toArray, List.getElem_cons_zero, List.getElem_cons_succ]
      refine wpAnyH_take (i := 7) (v := ?_) rfl (by kernel_rfl) (by kernel_rfl) (by kernel_rfl) (fun _ _ _ h => h) (Or.inl ⟨by rfl, ?_⟩) (by assumption) ?_
      rotate_left 1
      · (intro w' hSw; (try dsimp only at hSw); go_simp; try with_reducible rfl)
      try simp only [Act.put, List.setIfInBounds_toArray, List.set_cons_zero, List.set_cons_succ, List.getElem_toArray, List.getElem_cons_zero, List.getElem_cons_succ]
      refine wpAnyH_take (i := 8) (v := ?_) rfl (by kernel_rfl) (by kernel_rfl) (by kernel_rfl) (fun _ _ _ h => h) (Or.inl ⟨by rfl, ?_⟩) (by assumption) ?_
      rotate_left 1
      · (intro w' hSw; (try dsimp only at hSw); go_simp; try with_reducible rfl)
      try simp only [Act.put, List.setIfInBounds_toArray, List.set_cons_zero, List.set_cons_succ, List.getElem_toArray, List.getElem_cons_zero, List.getElem_cons_succ]
      refine wpAnyH_ready (rs := [10]) (by kernel_rfl) (by simp) ?_
      refine AllReadyH.cons rfl (fun K hK => ?_) AllReadyH.nil
      have y0 := E7.out.c0
      have y1 := E7.out.c1
      have f0 := E7.out.fz 0
      have f1 := E7.out.fz 1
      have l7 := E7.out.lt
      have SS := SA.out _ KW.out
      simp only [List.getElem_toArray, List.getElem_cons_zero, List.getElem_cons_succ]
      go_simp
      refine hK.out _ _ ⟨look_two (by omega) SS.1 0 1 _ _, look_two (by omega) SS.2 0 1 _ _⟩ (fun hHeld => ?_)
      clear hK K
      try simp only [Act.put, List.setIfInBounds_toArray, List.set_cons_zero, List.set_cons_succ, List.getElem_toArray, List.getElem_cons_zero, List.getElem_cons_succ]
      clear y0 y1 f0 f1 l7 SS
      replace E7 := hide (E7.out.set (El.ad (V k) El.on))
      replace KW := hide (chg2_at KW.out gA (fun l => absurd l (by omega)) 0 1 (.int .i64 (El.ad (V k) El.on).v.1) (.int .i64 (El.ad (V k) El.on).v.2))
      generalize hUS : ((VV2.setCell ⟨gA, 0, none⟩ (.int .i64 (El.ad (V k) El.on).v.1)).setCell ⟨gA, 1, none⟩ (.int .i64 (El.ad (V k) El.on).v.2)) = US at E7 KW hHeld ⊢
      clear hUS
      refine wpAnyH_take (i := 11) (v := ?_) rfl (by kernel_rfl) (by kernel_rfl) (by kernel_rfl) (fun _ _ _ h => h) (Or.inl ⟨by rfl, ?_⟩) (by assumption) ?_
      rotate_left 1
      · (intro w' hSw; (try dsimp only at hSw); go_simp; try with_reducible rfl)
      try simp only [Act.put, List.setIfInBounds_toArray, List.set_cons_zero, List.set_cons_succ, List.getElem_toArray, List.getElem_cons_zero, List.getElem_cons_succ]
      refine wpAnyH_done (by kernel_rfl) ?_ _
      go_wp2_with fail
      go_meet
      exact ⟨gA, rfl, rfl, hide lA, E7, KW⟩
  case rest =>
    obtain ⟨gg, rfl, rfl, HLG, HE, HGC⟩ := hcut
    rename World => W12
    have R12 := hide (R11.out.keep HGC.out)
    have G12 := hide (G11.out.trans HGC.out)
    clear b0 b1 R11 G11
    have e0 := HE.out.c0
    have e1 := HE.out.c1
    have b0 := R12.out.c0 hkZ
    have b1 := R12.out.c1 hkZ
    have f0 := R12.out.fz (k * 2)
    have f1 := R12.out.fz (k * 2 + 1)
    have hbl2 : b < W12.heap.size := R12.out.lt
    have R13 := hide (R12.out.set hkZ (El.ad (V k) El.on))
    have G13 := hide (Chg.near G12.out (Chg.one (Chg.refl (fun x => x = b) W12) b (fun _ => rfl) (k * 2) (k * 2 + 1) (.int .i64 (El.ad (V k) El.on).v.1) (.int .i64 (El.ad (V k) El.on).v.2)) (fun i e => by omega))
    go_upto_region 20 with fail
    clear e0 e1 b0 b1 f0 f1
    generalize hE : ((W12.setCell ⟨b, k * 2, none⟩ (.int .i64 (El.ad (V k) El.on).v.1)).setCell ⟨b, k * 2 + 1, none⟩ (.int .i64 (El.ad (V k) El.on).v.2)) = W13 at R13 G13 ⊢
    clear hE R12 G12 HE
    go_wp2_with fail
    refine (QW.out _ capb _ _ (hide (RowX.pairs R13.out))).mono ?_
    rintro e W14 ⟨rfl, k14⟩
    rw [HT2.out k hkZ]
    go_wp2
    go_ret
    exact ⟨rfl, (G13.out.trans k14).toBelow⟩

set_option maxRecDepth 100000 in
theorem lifted (os : Os) (started : os.Started) (H : Type) (enc : TypeId × Value → H) :
    ReturnsInHanded {} Try.checked os 8 .any (Rows.fnWordSpec.pre6 enc Try.prog Try.f8 Rows.fnWordRow.domain false) (Rows.fnWordSpec.post enc Try.prog Try.f8 false true false false) := by
  refine returnsInHanded_of_change (C := Try.checked) own started (by kernel_rfl) Try.func8
    (ChangeSpec.witness6 (enc := enc) (C := Try.checked) false ⟨#[], #[.slice none 0 0, .slice none 0 0], []⟩ 8 (by kernel_rfl) (by kernel_rfl) (by kernel_rfl) (by kernel_rfl)) ?_
  intro W base args ds gs before hval0 hW hcnd _
  have hval : ∀ (j : Nat) t v, Try.f8.params[j]? = some t → args[j]? = some v → Value.okWide Try.prog W .any base t v := hval0
  have hW' := hW
  obtain ⟨p, q, hA0, hV, rfl, hfz, hnd⟩ := hW
  have hA : DataW.TrodAll enc Try.prog W 0 (fun _ => true) true Try.f8.params.toList args.toList ds p := hA0
  rw [Try.params8] at hA hval
  obtain ⟨v0, vs0, d0, ds0, p0, q0, hargs, rfl, rfl, h0, r0⟩ := trodAll_cons hA
  obtain ⟨v1, vs1, d1, ds1, p1, q1, rfl, rfl, rfl, h1, r1⟩ := trodAll_cons r0
  obtain ⟨rfl, rfl, rfl⟩ := trodAll_nil r1
  obtain rfl : args = #[v0, v1] := by cases args; simp_all
  obtain ⟨rfl, rfl⟩ := trodVars_none hV
  obtain ⟨a0, len0, cap0, rfl⟩ := okWide_slice Try.underlying22 (hval 0 22 v0 rfl rfl)
  have k0 := h0
  have lt0 : ∀ x ∈ p0, x.block < W.heap.size := by obtain ⟨m, hm⟩ := k0; exact DataW.trod_lt m _ _ _ hm
  obtain ⟨z0, w0⟩ : ∃ zs, IsRow .u8 W a0 len0 cap0 zs := by
    obtain ⟨fuel, hf⟩ := h0
    rcases open_ints Try.underlying22 Try.underlying5 (by kernel_rfl) hf with ⟨hcs, _⟩ | ⟨x, l, c, zs, hcs, _, hl, hm, hz, _, hcell, hwz⟩
    · simp [Value.cells] at hcs
      obtain ⟨rfl, rfl, rfl⟩ := hcs
      exact ⟨[], .inl ⟨rfl, rfl, rfl, rfl⟩⟩
    · simp [Value.cells] at hcs
      obtain ⟨rfl, rfl, rfl⟩ := hcs
      exact ⟨zs, .inr ⟨_, rfl, hl, hm, by simpa using hz, hcell, hwz⟩⟩
  obtain ⟨a1, len1, cap1, rfl⟩ := okWide_slice Try.underlying22 (hval 1 22 v1 rfl rfl)
  have k1 := h1
  have lt1 : ∀ x ∈ p1, x.block < W.heap.size := by obtain ⟨m, hm⟩ := k1; exact DataW.trod_lt m _ _ _ hm
  obtain ⟨z1, w1⟩ : ∃ zs, IsRow .u8 W a1 len1 cap1 zs := by
    obtain ⟨fuel, hf⟩ := h1
    rcases open_ints Try.underlying22 Try.underlying5 (by kernel_rfl) hf with ⟨hcs, _⟩ | ⟨x, l, c, zs, hcs, _, hl, hm, hz, _, hcell, hwz⟩
    · simp [Value.cells] at hcs
      obtain ⟨rfl, rfl, rfl⟩ := hcs
      exact ⟨[], .inl ⟨rfl, rfl, rfl, rfl⟩⟩
    · simp [Value.cells] at hcs
      obtain ⟨rfl, rfl, rfl⟩ := hcs
      exact ⟨zs, .inr ⟨_, rfl, hl, hm, by simpa using hz, hcell, hwz⟩⟩
  clear hA0 hval0
  refine (walk a0 len0 cap0 z0 a1 len1 cap1 z1 W w0 w1).mono fun e W' ⟨he, bel⟩ => ?_
  subst he
  exact ⟨_, rfl, _, _, _, [], _, [], hW', trodAll_mk1 (shut_bool Try.underlying4 _), (trodAll_cons_mk (Below.trod laidOut (by kernel_rfl) (of_decide_eq_true (by kernel_rfl)) k0 bel lt0) (trodAll_cons_mk (Below.trod laidOut (by kernel_rfl) (of_decide_eq_true (by kernel_rfl)) k1 bel lt1) trodAll_mk0)), rfl, bel.frame _, fun h => by cases h⟩

theorem over : Rows.fnWordRow.holds Try.pinned (OpenSpec.ofChange Rows.fnWordSpec) :=
  OpenClaim.holds_of_wide 8 Try.f8 rfl rfl rfl rfl rfl rfl rfl ⟨rfl, rfl, rfl, rfl, rfl⟩ rfl rfl rfl rfl rfl (by kernel_rfl) Try.func8 (by kernel_rfl)
    (of_decide_eq_true (by kernel_rfl)) (by unfold Func.isWrapper; first | (rw [if_pos (by decide +kernel)]; kernel_rfl) | (rw [if_neg (by decide +kernel)]; exact ⟨rfl, rfl⟩))
    (fun os started H enc _ => lifted os started H enc)

end Go.Proofs.Ytagjffjdoimhbac.fnWord
namespace Go.Proofs.Ytagjffjdoimhbac
theorem FnWord_holds : Rows.FnWordSaid := fnWord.over
#print axioms FnWord_holds
end Go.Proofs.Ytagjffjdoimhbac
