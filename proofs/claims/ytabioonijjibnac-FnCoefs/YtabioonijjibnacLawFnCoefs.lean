/- For all codes (slices of bytes): the law FnCoefs holds: coefficients and values lead to one another, and to one polynomial. No condition. -/
import Derived.Test.YtabioonijjibnacRows
import Derived.WalkKit
import Derived.ProofKit
import Derived.OpenShut
import Derived.Test.YtabioonijjibnacTabL
import Derived.Test.YtabioonijjibnacSrcM
import Derived.Test.YtabioonijjibnacLawH
import Derived.Test.YtabioonijjibnacStepL
import Derived.Test.YtabioonijjibnacLawQ
import Derived.ShutString
import Derived.ChangeOld
import Derived.Below
namespace Go.Proofs.Ytabioonijjibnac.fnCoefs
open Go.ChangeShapes Go.WideShapes Go.ChangeAt Go.RowKit
open Go.ChangeMaps (open_string shut_string)
set_option linter.unusedVariables false

theorem own : ownKnob Try.prog.godebug = none := by kernel_rfl
theorem laidOut : laidOutB Try.prog = true := by kernel_rfl

/-- WHAT THE WALK IS TOLD OF A SLICE OF INTEGERS THAT CAME IN: it is nil; or it leads to a row of 'cap' cells, the numbers 'zs' (the first 'len' are its elements, the rest its spare room), each fitting its kind. -/
def IsRow (k : IntKind) (w : World) (a : Option Addr) (len cap : Nat) (zs : List Int) : Prop :=
  (a = none ∧ len = 0 ∧ cap = 0 ∧ zs = []) ∨
  ∃ x, a = some x ∧ len ≤ cap ∧ cap ≤ maxLen ∧ zs.length = cap ∧ (∀ i, i < zs.length → w.cell? (x.add i) = some (.int k (zs.getD i 0))) ∧ ∀ n ∈ zs, (Lit.int k n).wf = true

set_option linter.unusedSimpArgs false
set_option linter.unusedVariables false
set_option maxRecDepth 100000 in
set_option maxHeartbeats 4000000 in
theorem walk (a0 : Option Addr) (len0 cap0 : Nat) (z0 : List Int) (a1 : Option Addr) (len1 cap1 : Nat) (z1 : List Int) (w : World) (w0 : IsRow .u8 w a0 len0 cap0 z0) (w1 : IsRow .u8 w a1 len1 cap1 z1) :
    Calls Try.prog 5 #[.slice a0 len0 cap0, .slice a1 len1 cap1] w fun e w' => e = .returned (.bool true) ∧ Below w.heap.size w w' := by
  obtain ⟨hB0, hl0⟩ := bytes_of_row w0
  obtain ⟨hB1, hl1⟩ := bytes_of_row w1
  have HB0 := hide hB0
  have HB1 := hide hB1
  clear w0 w1 hB0 hB1
  by_cases hm : 1048576 < len0
  · have hm' : 1048576 < (len0 : Int) := by omega
    go_enter Try.func5, Try.ntmps5
    go_wp2_with fail
    go_ret
    exact ⟨rfl, Below.refl _ _⟩
  by_cases hn : 1048576 < len1
  · have hm' : ¬ 1048576 < (len0 : Int) := by omega
    have hn' : 1048576 < (len1 : Int) := by omega
    go_enter Try.func5, Try.ntmps5
    go_wp2_with fail
    go_ret
    exact ⟨rfl, Below.refl _ _⟩
  have hm' : ¬ 1048576 < (len0 : Int) := by omega
  have hn' : ¬ 1048576 < (len1 : Int) := by omega
  obtain ⟨i0, hi, hz0, hz1, hz2⟩ := info_parts infoExt
  have HI := hide hi
  have HZ0 := hide hz0
  have HZ1 := hide hz1
  have HZ2 := hide hz2
  clear hi hz0 hz1 hz2
  go_enter Try.func5, Try.ntmps5
  go_wp2_with fail
  refine (at_pl a1 len1 cap1 0 5 _ HB1.out hl1 (by omega) (by omega) (by omega)).mono ?_
  rintro e W1 ⟨n, rfl, hn5, k1⟩
  have G1 := hide k1
  clear k1
  have h6 : n ≤ 6 := by omega
  obtain ⟨M, hM⟩ : ∃ M, M = 2 ^ n := ⟨_, rfl⟩
  have HM := hide hM
  have hM32 : M ≤ 32 := by rw [hM]; exact Nat.le_trans (Nat.pow_le_pow_right (by omega) (show n ≤ 5 by omega)) (by decide)
  have hM1 : 1 ≤ M := by rw [hM]; exact Nat.one_le_two_pow
  have hpw : (2 : Int) ^ n = (M : Int) := by rw [hM]; simp
  have hn0 : (0 : Int) ≤ (n : Int) := by omega
  clear hM
  go_wp2_with fail
  refine (extsOf_any a0 len0 cap0 M _ (HB0.out.below G1.out.toBelow) hl0 (by omega)).mono ?_
  rintro e W2 ⟨f, g, ct, capt, rfl, hP, hO, k2⟩
  obtain ⟨tb, htb⟩ : ∃ tb, tb = elF f g := ⟨_, rfl⟩
  have T2 := hide (show PairE W2 ct M tb by rw [htb]; exact PairE.of hP hO)
  have G2 := hide (G1.out.trans k2)
  clear k2 hP hO htb G1
  go_wp2_with fail
  refine (extsOf_any a1 len1 cap1 n _ (HB1.out.below G2.out.toBelow) hl1 (by omega)).mono ?_
  rintro e W3 ⟨f', g', c, cap, rfl, hP, hO, k3⟩
  obtain ⟨p, hp⟩ : ∃ p, p = elF f' g' := ⟨_, rfl⟩
  have P3 := hide (show PairE W3 c n p by rw [hp]; exact PairE.of hP hO)
  have T3 := hide (T2.out.keep k3)
  have G3 := hide (G2.out.trans k3)
  clear k3 hP hO hp G2 T2
  obtain ⟨co, hco⟩ : ∃ co, co = El.cfs false tb n := ⟨_, rfl⟩
  have HCO := hide hco
  clear hco
  have QI := hide (fun (c : Option Addr) (cap : Nat) (w' : World) (h : Hid (PairE w' c M tb)) => coefs_el c M n cap HM.out tb w' h h6)
  have QS := hide (fun (c : Option Addr) (cap : Nat) (w' : World) (h : Hid (PairE w' c M tb)) => sCoefs_el c M n cap HM.out tb w' h h6)
  have QB := hide (fun (c : Option Addr) (cap : Nat) (w' : World) (h : Hid (PairE w' c M co)) => tableOf_el c M n cap HM.out co w' h h6)
  rw [← HCO.out] at QI QS
  rw [show El.cfs true co n = tb by rw [HCO.out]; exact El.cfs_back tb n] at QB
  go_wp2_with fail
  refine (QI.out ct capt _ T3).mono ?_
  rintro e W4 ⟨cc, capc, rfl, o4, k4⟩
  have C4 := hide (show PairE W4 cc M co from OwnE.pairs o4)
  have T4 := hide (T3.out.keep k4)
  have P4 := hide (P3.out.keep k4)
  have G4 := hide (G3.out.trans k4)
  clear o4 k4 P3 G3 T3 QI
  go_wp2_with fail
  refine (QS.out ct capt _ T4).mono ?_
  rintro e W5 ⟨cw, capw, rfl, o5, k5⟩
  have S5 := hide (show PairE W5 cw M co from OwnE.pairs o5)
  have C5 := hide (C4.out.keep k5)
  have T5 := hide (T4.out.keep k5)
  have P5 := hide (P4.out.keep k5)
  have G5 := hide (G4.out.trans k5)
  clear o5 k5 P4 G4 T4 C4 QS
  go_wp2_with fail
  refine (QB.out cc capc _ C5).mono ?_
  rintro e W6 ⟨cbk, capb, rfl, o6, k6⟩
  have B6 := hide (show PairE W6 cbk M tb from OwnE.pairs o6)
  have S6 := hide (S5.out.keep k6)
  have C6 := hide (C5.out.keep k6)
  have T6 := hide (T5.out.keep k6)
  have P6 := hide (P5.out.keep k6)
  have G6 := hide (G5.out.trans k6)
  clear o6 k6 P5 G5 T5 C5 S5 QB
  go_wp2_with fail
  refine (tableAt_el ct c M n capt cap HM.out tb p _ T6 P6 h6).mono ?_
  rintro e W7 ⟨rfl, k7⟩
  have kA := hide (k7.alloc (.cells #[.int .i64 (El.tat tb p n).v.1, .int .i64 (El.tat tb p n).v.2] 31))
  have V7 := hide (ElB.new W7 (El.tat tb p n))
  have B7 := hide (B6.out.keep kA.out)
  have S7 := hide (S6.out.keep kA.out)
  have C7 := hide (C6.out.keep kA.out)
  have T7 := hide (T6.out.keep kA.out)
  have P7 := hide (P6.out.keep kA.out)
  have G7 := hide (G6.out.trans kA.out)
  clear k7 kA B6 S6 C6 T6 P6 G6
  go_wp2_with fail
  refine (sameExts_any cc cw M M capc capw (cA co) (cB co) (cA co) (cB co) _ C7 S7 rfl (fun _ _ => ⟨rfl, rfl⟩) (by omega)).mono ?_
  rintro e W8 ⟨rfl, k8⟩
  have V8 := hide (V7.out.keep k8)
  have B8 := hide (B7.out.keep k8)
  have C8 := hide (C7.out.keep k8)
  have T8 := hide (T7.out.keep k8)
  have P8 := hide (P7.out.keep k8)
  have G8 := hide (G7.out.trans k8)
  clear k8 V7 B7 S7 C7 T7 P7 G7
  go_wp2_with fail
  refine (sameExts_any cbk ct M M capb capt (cA tb) (cB tb) (cA tb) (cB tb) _ B8 T8 rfl (fun _ _ => ⟨rfl, rfl⟩) (by omega)).mono ?_
  rintro e W9 ⟨rfl, k9⟩
  have V9 := hide (V8.out.keep k9)
  have C9 := hide (C8.out.keep k9)
  have P9 := hide (P8.out.keep k9)
  have G9 := hide (G8.out.trans k9)
  clear k9 V8 B8 C8 T8 P8 G8
  go_wp2
  go_loopw [17] (fun i W => ∃ k : Nat, k ≤ M ∧ i = .int .i64 k ∧ Hid (ElB W W9.heap.size (El.sm (fun i => El.mnx p i (co i) n) k)) ∧ Hid (Chg nob W9 W)) (fun i _ => M - (intOf i).toNat)
  case atStart => exact ⟨0, Nat.zero_le _, rfl, hide (ElB.zero W9), hide ((Chg.refl nob W9).alloc _)⟩
  case round =>
    obtain ⟨k, hk, rfl, HE, HG⟩ := hrel
    rename World => wo
    by_cases hlt : k < M
    · have hk1 : (k : Int) < (M : Int) := by omega
      have hk0 : (0 : Int) ≤ (k : Int) := by omega
      have CY := hide (C9.out.keep HG.out)
      obtain ⟨zb, zo, ec, hzb, _, _⟩ := PairE.at_ CY.out hlt
      subst ec
      have z0 := PairE.c0 CY.out hlt
      have z1 := PairE.c1 CY.out hlt
      have hel : W9.heap.size < wo.heap.size := HE.out.lt
      go_wp2
      clear z0 z1 CY
      go_loopw [19] (fun i W => ∃ j : Nat, j ≤ n ∧ i = .int .i64 j ∧ Hid (ElB W wo.heap.size (El.mnx p k (co k) j)) ∧ Hid (Chg nob wo W)) (fun i _ => n - (intOf i).toNat)
      case atStart => exact ⟨0, Nat.zero_le _, rfl, hide (ElB.new wo (co k)), hide ((Chg.refl nob wo).alloc _)⟩
      case round =>
        obtain ⟨j, hj, rfl, HX, HH⟩ := hrel
        rename World => wi
        by_cases hlj : j < n
        · have hj1 : (j : Int) < (n : Int) := by omega
          have hj0 : (0 : Int) ≤ (j : Int) := by omega
          have hbit := shr_bit (k := k) (j := j) (by omega) (by omega)
          cases hb : k.testBit j
          · have hv : (El.bitE k j).v.1 = 0 := by unfold El.bitE; rw [hb]; rfl
            rw [hv] at hbit
            have HX2 := hide (show ElB wi wo.heap.size (El.mnx p k (co k) (j + 1)) by rw [El.mnx, hb]; exact HX.out)
            go_wp2
            go_roundw
            case rel => exact ⟨j + 1, by omega, by go_num, HX2, HH⟩
            case measure => simp [intOf]; omega
          · have hv : (El.bitE k j).v.1 = 1 := by unfold El.bitE; rw [hb]; rfl
            rw [hv] at hbit
            have PY := hide (P9.out.keep (HG.out.trans HH.out))
            obtain ⟨xb, xo, ec, hxb, _, _⟩ := PairE.at_ PY.out hlj
            subst ec
            have x0 := PairE.c0 PY.out hlj
            have x1 := PairE.c1 PY.out hlj
            have e0 := HX.out.c0
            have e1 := HX.out.c1
            have hxl : wo.heap.size < wi.heap.size := HX.out.lt
            go_wp2
            have KW := hide ((Chg.refl nob wi).drew1)
            have SA := hide (fun (WW : World) (kW : Chg nob wi WW) => (show (WW.cell? ⟨wo.heap.size, 0, none⟩ = some (.int .i64 (El.mnx p k (co k) j).v.1) ∧ WW.cell? ⟨wo.heap.size, 1, none⟩ = some (.int .i64 (El.mnx p k (co k) j).v.2) ∧ WW.cell? ⟨xb, xo + j * 2, none⟩ = some (.int .i64 (p j).v.1) ∧ WW.cell? ⟨xb, xo + j * 2 + 1, none⟩ = some (.int .i64 (p j).v.2)) from ⟨kW.see e0, kW.see e1, kW.see x0, kW.see x1⟩))
            refine wp_region_held_drew (S := fun w' => w'.cell? ⟨wo.heap.size, 0, none⟩ = some (.int .i64 (El.mnx p k (co k) j).v.1) ∧ w'.cell? ⟨wo.heap.size, 1, none⟩ = some (.int .i64 (El.mnx p k (co k) j).v.2) ∧ w'.cell? ⟨xb, xo + j * 2, none⟩ = some (.int .i64 (p j).v.1) ∧ w'.cell? ⟨xb, xo + j * 2 + 1, none⟩ = some (.int .i64 (p j).v.2)) (by kernel_rfl) ⟨e0, e1, x0, x1⟩ (fun hHeld => ?_)
            refine wpAnyH_take (i := 0) (v := ?_) rfl (by kernel_rfl) (by kernel_rfl) (by kernel_rfl) (fun _ _ _ h => h) (Or.inl ⟨by rfl, ?_⟩) (by assumption) ?_
            rotate_left 1
            · (intro w' hSw; (try dsimp only at hSw); go_simp; try with_reducible rfl)
            try simp only [Act.put, List.setIfInBounds_toArray, List.set_cons_zero, List.set_cons_succ, List.getElem_toArray, List.getElem_cons_zero, List.getElem_cons_succ]
            refine wpAnyH_take (i := 1) (v := ?_) rfl (by kernel_rfl) (by kernel_rfl) (by kernel_rfl) (fun _ _ _ h => h) (Or.inl ⟨by rfl, ?_⟩) (by assumption) ?_
            rotate_left 1
            · (intro w' hSw; (try dsimp only at hSw); go_simp; try with_reducible rfl)
            try simp only [Act.put, List.setIfInBounds_toArray, List.set_cons_zero, List.set_cons_succ, List.getElem_toArray, List.getElem_cons_zero, List.getElem_cons_succ]
            refine wpAnyH_take (i := 2) (v := ?_) rfl (by kernel_rfl) (by kernel_rfl) (by kernel_rfl) (fun _ _ _ h => h) (Or.inl ⟨by rfl, ?_⟩) (by assumption) ?_
            rotate_left 1
            · (intro w' hSw; (try dsimp only at hSw); go_simp; try with_reducible rfl)
            try simp only [Act.put, List.setIfInBounds_toArray, List.set_cons_zero, List.set_cons_succ, List.getElem_toArray, List.getElem_cons_zero, List.getElem_cons_succ]
            refine wpAnyH_take (i := 3) (v := ?_) rfl (by kernel_rfl) (by kernel_rfl) (by kernel_rfl) (fun _ _ _ h => h) (Or.inl ⟨by rfl, ?_⟩) (by assumption) ?_
            rotate_left 1
            · (intro w' hSw; (try dsimp only at hSw); go_simp; try with_reducible rfl)
            try simp only [Act.put, List.setIfInBounds_toArray, List.set_cons_zero, List.set_cons_succ, List.getElem_toArray, List.getElem_cons_zero, List.getElem_cons_succ]
            refine wpAnyH_take (i := 4) (v := ?_) rfl (by kernel_rfl) (by kernel_rfl) (by kernel_rfl) (fun _ _ _ h => h) (Or.inl ⟨by rfl, ?_⟩) (by assumption) ?_
            rotate_left 1
            · (intro w' hSw; (try dsimp only at hSw); go_simp; try with_reducible rfl)
            try simp only [Act.put, List.setIfInBounds_toArray, List.set_cons_zero, List.set_cons_succ, List.getElem_toArray, List.getElem_cons_zero, List.getElem_cons_succ]
            refine wpAnyH_ready (rs := [5, 9]) (by kernel_rfl) (by simp) ?_
            refine AllReadyH.cons rfl (fun K hK => ?_) ?_
            · refine stepL_callN 21 #[.tmp 115, .tmp 119] #[31, 31] (by rfl) (by rfl) #[.agg #[.int .i64 (El.mnx p k (co k) j).v.1, .int .i64 (El.mnx p k (co k) j).v.2], .agg #[.int .i64 (p j).v.1, .int .i64 (p j).v.2]] (by simp only [List.map_toArray, List.map_cons, List.map_nil] <;> rfl) (run_go Try.func21 (by kernel_rfl) (by kernel_rfl) _ _) (exMl_el (El.mnx p k (co k) j) (p j) _) ?_
              rintro e U1 ⟨he, kk⟩
              refine ⟨_, he, ?_⟩
              replace KW := hide (KW.out.trans kk)
              refine hK.out _ _ (SA.out _ KW.out) (fun hHeld => ?_)
              clear hK K
              try simp only [Act.put, List.setIfInBounds_toArray, List.set_cons_zero, List.set_cons_succ, List.getElem_toArray, List.getElem_cons_zero, List.getElem_cons_succ]
              clear he kk
              refine wpAnyH_take (i := 6) (v := ?_) rfl (by kernel_rfl) (by kernel_rfl) (by kernel_rfl) (fun _ _ _ h => h) (Or.inl ⟨by rfl, ?_⟩) (by assumption) ?_
              rotate_left 1
              · (intro w' hSw; (try dsimp only at hSw); go_simp; try with_reducible rfl)
              try simp only [Act.put, List.setIfInBounds_toArray, List.set_cons_zero, List.set_cons_succ, List.getElem_toArray, List.getElem_cons_zero, List.getElem_cons_succ]
              refine wpAnyH_take (i := 7) (v := ?_) rfl (by kernel_rfl) (by kernel_rfl) (by kernel_rfl) (fun _ _ _ h => h) (Or.inl ⟨by rfl, ?_⟩) (by assumption) ?_
              rotate_left 1
              · (intro w' hSw; (try dsimp only at hSw); go_simp; try with_reducible rfl)
              try simp only [Act.put, List.setIfInBounds_toArray, List.set_cons_zero, List.set_cons_succ, List.getElem_toArray, List.getElem_cons_zero, List.getElem_cons_succ]
              refine wpAnyH_take (i := 8) (v := ?_) rfl (by kernel_rfl) (by kernel_rfl) (by kernel_rfl) (fun _ _ _ h => h) (Or.inl ⟨by rfl, ?_⟩) (by assumption) ?_
              rotate_left 1
              · (intro w' hSw; (try dsimp only at hSw); go_simp; try with_reducible rfl)
              try simp only [Act.put, List.setIfInBounds_toArray, List.set_cons_zero, List.set_cons_succ, List.getElem_toArray, List.getElem_cons_zero, List.getElem_cons_succ]
              refine wpAnyH_ready (rs := [9]) (by kernel_rfl) (by simp) ?_
              refine AllReadyH.cons rfl (fun K hK => ?_) AllReadyH.nil
              simp only [List.getElem_toArray, List.getElem_cons_zero, List.getElem_cons_succ]
              go_simp
              have E7 : Hid (ElB (World.alloc U1 (.cells #[.int .i64 0, .int .i64 0] 31)) U1.heap.size El.zr) := hide (ElB.zero U1)
              have hgl : wi.heap.size ≤ U1.heap.size := KW.out.size
              replace KW : Hid (Chg nob wi (World.alloc U1 (.cells #[.int .i64 0, .int .i64 0] 31))) := hide (KW.out.alloc _)
              generalize hUA : (World.alloc U1 (.cells #[.int .i64 0, .int .i64 0] 31)) = UA at E7 KW ⊢
              clear hUA
              refine hK.out _ _ (SA.out _ KW.out) (fun hHeld => ?_)
              clear hK K
              try simp only [Act.put, List.setIfInBounds_toArray, List.set_cons_zero, List.set_cons_succ, List.getElem_toArray, List.getElem_cons_zero, List.getElem_cons_succ]
              refine wpAnyH_ready (rs := [10]) (by kernel_rfl) (by simp) ?_
              refine AllReadyH.cons rfl (fun K hK => ?_) AllReadyH.nil
              have y0 := E7.out.c0
              have y1 := E7.out.c1
              have f0 := E7.out.fz 0
              have f1 := E7.out.fz 1
              have l7 := E7.out.lt
              simp only [List.getElem_toArray, List.getElem_cons_zero, List.getElem_cons_succ]
              go_simp
              refine hK.out _ _ ⟨look_two (by omega) (SA.out _ KW.out).1 0 1 _ _, look_two (by omega) (SA.out _ KW.out).2.1 0 1 _ _, look_two (by omega) (SA.out _ KW.out).2.2.1 0 1 _ _, look_two (by omega) (SA.out _ KW.out).2.2.2 0 1 _ _⟩ (fun hHeld => ?_)
              clear hK K
              try simp only [Act.put, List.setIfInBounds_toArray, List.set_cons_zero, List.set_cons_succ, List.getElem_toArray, List.getElem_cons_zero, List.getElem_cons_succ]
              clear y0 y1 f0 f1 l7
              refine wpAnyH_take (i := 11) (v := ?_) rfl (by kernel_rfl) (by kernel_rfl) (by kernel_rfl) (fun _ _ _ h => h) (Or.inl ⟨by rfl, ?_⟩) (by assumption) ?_
              rotate_left 1
              · (intro w' hSw; (try dsimp only at hSw); go_simp; try with_reducible rfl)
              try simp only [Act.put, List.setIfInBounds_toArray, List.set_cons_zero, List.set_cons_succ, List.getElem_toArray, List.getElem_cons_zero, List.getElem_cons_succ]
              refine wpAnyH_done (by kernel_rfl) ?_ _
              have E8 := hide (E7.out.set (El.ml (El.mnx p k (co k) j) (p j)))
              have S8 := hide (ElB.other (HX.out.keep KW.out) (g := U1.heap.size) (by omega) 0 1 (.int .i64 (El.ml (El.mnx p k (co k) j) (p j)).v.1) (.int .i64 (El.ml (El.mnx p k (co k) j) (p j)).v.2))
              have G8 := hide (chg2_at (HH.out.trans KW.out) U1.heap.size (fun l => absurd l (by omega)) 0 1 (.int .i64 (El.ml (El.mnx p k (co k) j) (p j)).v.1) (.int .i64 (El.ml (El.mnx p k (co k) j) (p j)).v.2))
              have NE := hide (show wo.heap.size ≠ U1.heap.size by omega)
              generalize hE : ((UA.setCell ⟨U1.heap.size, 0, none⟩ (.int .i64 (El.ml (El.mnx p k (co k) j) (p j)).v.1)).setCell ⟨U1.heap.size, 1, none⟩ (.int .i64 (El.ml (El.mnx p k (co k) j) (p j)).v.2)) = W8' at E8 S8 G8 ⊢
              clear hE SA hHeld KW E7 x0 x1 e0 e1 HX HH hxl hgl PY
              generalize hE2 : U1.heap.size = gg at E8 NE ⊢
              clear hE2
              have y0 := E8.out.c0
              have y1 := E8.out.c1
              have s0 := S8.out.c0
              have s1 := S8.out.c1
              have f0 := S8.out.fz 0
              have f1 := S8.out.fz 1
              go_wp2
              clear y0 y1 s0 s1 f0 f1
              have S9 : Hid (ElB _ wo.heap.size (El.mnx p k (co k) (j + 1))) := hide (by rw [El.mnx, hb]; exact S8.out.set (El.ml (El.mnx p k (co k) j) (p j)))
              have G9' := hide (chg2_at G8.out wo.heap.size (fun l => absurd l (by omega)) 0 1 (.int .i64 (El.ml (El.mnx p k (co k) j) (p j)).v.1) (.int .i64 (El.ml (El.mnx p k (co k) j) (p j)).v.2))
              go_roundw
              case rel => exact ⟨j + 1, by omega, by go_num, S9, G9'⟩
              case measure => simp [intOf]; omega
            · refine AllReadyH.cons rfl (fun K hK => ?_) AllReadyH.nil
              simp only [List.getElem_toArray, List.getElem_cons_zero, List.getElem_cons_succ]
              go_simp
              have E7 : Hid (ElB (World.alloc wi (.cells #[.int .i64 0, .int .i64 0] 31)).drew wi.heap.size El.zr) := hide (ElB.keep (ElB.zero wi) (Chg.refl nob _).drew1)
              have hgl : wi.heap.size ≤ wi.heap.size := Nat.le_refl _
              replace KW : Hid (Chg nob wi (World.alloc wi (.cells #[.int .i64 0, .int .i64 0] 31)).drew) := hide (((Chg.refl nob wi).alloc _).drew1)
              generalize hUA : (World.alloc wi (.cells #[.int .i64 0, .int .i64 0] 31)).drew = UA at E7 KW ⊢
              clear hUA
              refine hK.out _ _ (SA.out _ KW.out) (fun hHeld => ?_)
              clear hK K
              try simp only [Act.put, List.setIfInBounds_toArray, List.set_cons_zero, List.set_cons_succ, List.getElem_toArray, List.getElem_cons_zero, List.getElem_cons_succ]
              refine wpAnyH_ready (rs := [5]) (by kernel_rfl) (by simp) ?_
              refine AllReadyH.cons rfl (fun K hK => ?_) AllReadyH.nil
              refine stepL_callN 21 #[.tmp 115, .tmp 119] #[31, 31] (by rfl) (by rfl) #[.agg #[.int .i64 (El.mnx p k (co k) j).v.1, .int .i64 (El.mnx p k (co k) j).v.2], .agg #[.int .i64 (p j).v.1, .int .i64 (p j).v.2]] (by simp only [List.map_toArray, List.map_cons, List.map_nil] <;> rfl) (run_go Try.func21 (by kernel_rfl) (by kernel_rfl) _ _) (exMl_el (El.mnx p k (co k) j) (p j) _) ?_
              rintro e U1 ⟨he, kk⟩
              replace E7 := hide (E7.out.keep kk)
              refine ⟨_, he, ?_⟩
              replace KW := hide (KW.out.trans kk)
              refine hK.out _ _ (SA.out _ KW.out) (fun hHeld => ?_)
              clear hK K
              try simp only [Act.put, List.setIfInBounds_toArray, List.set_cons_zero, List.set_cons_succ, List.getElem_toArray, List.getElem_cons_zero, List.getElem_cons_succ]
              clear he kk
              refine wpAnyH_take (i := 6) (v := ?_) rfl (by kernel_rfl) (by kernel_rfl) (by kernel_rfl) (fun _ _ _ h => h) (Or.inl ⟨by rfl, ?_⟩) (by assumption) ?_
              rotate_left 1
              · (intro w' hSw; (try dsimp only at hSw); go_simp; try with_reducible rfl)
              try simp only [Act.put, List.setIfInBounds_toArray, List.set_cons_zero, List.set_cons_succ, List.getElem_toArray, List.getElem_cons_zero, List.getElem_cons_succ]
              refine wpAnyH_take (i := 7) (v := ?_) rfl (by kernel_rfl) (by kernel_rfl) (by kernel_rfl) (fun _ _ _ h => h) (Or.inl ⟨by rfl, ?_⟩) (by assumption) ?_
              rotate_left 1
              · (intro w' hSw; (try dsimp only at hSw); go_simp; try with_reducible rfl)
              try simp only [Act.put, List.setIfInBounds_toArray, List.set_cons_zero, List.set_cons_succ, List.getElem_toArray, List.getElem_cons_zero, List.getElem_cons_succ]
              refine wpAnyH_take (i := 8) (v := ?_) rfl (by kernel_rfl) (by kernel_rfl) (by kernel_rfl) (fun _ _ _ h => h) (Or.inl ⟨by rfl, ?_⟩) (by assumption) ?_
              rotate_left 1
              · (intro w' hSw; (try dsimp only at hSw); go_simp; try with_reducible rfl)
              try simp only [Act.put, List.setIfInBounds_toArray, List.set_cons_zero, List.set_cons_succ, List.getElem_toArray, List.getElem_cons_zero, List.getElem_cons_succ]
              refine wpAnyH_ready (rs := [10]) (by kernel_rfl) (by simp) ?_
              refine AllReadyH.cons rfl (fun K hK => ?_) AllReadyH.nil
              have y0 := E7.out.c0
              have y1 := E7.out.c1
              have f0 := E7.out.fz 0
              have f1 := E7.out.fz 1
              have l7 := E7.out.lt
              simp only [List.getElem_toArray, List.getElem_cons_zero, List.getElem_cons_succ]
              go_simp
              refine hK.out _ _ ⟨look_two (by omega) (SA.out _ KW.out).1 0 1 _ _, look_two (by omega) (SA.out _ KW.out).2.1 0 1 _ _, look_two (by omega) (SA.out _ KW.out).2.2.1 0 1 _ _, look_two (by omega) (SA.out _ KW.out).2.2.2 0 1 _ _⟩ (fun hHeld => ?_)
              clear hK K
              try simp only [Act.put, List.setIfInBounds_toArray, List.set_cons_zero, List.set_cons_succ, List.getElem_toArray, List.getElem_cons_zero, List.getElem_cons_succ]
              clear y0 y1 f0 f1 l7
              refine wpAnyH_take (i := 11) (v := ?_) rfl (by kernel_rfl) (by kernel_rfl) (by kernel_rfl) (fun _ _ _ h => h) (Or.inl ⟨by rfl, ?_⟩) (by assumption) ?_
              rotate_left 1
              · (intro w' hSw; (try dsimp only at hSw); go_simp; try with_reducible rfl)
              try simp only [Act.put, List.setIfInBounds_toArray, List.set_cons_zero, List.set_cons_succ, List.getElem_toArray, List.getElem_cons_zero, List.getElem_cons_succ]
              refine wpAnyH_done (by kernel_rfl) ?_ _
              have E8 := hide (E7.out.set (El.ml (El.mnx p k (co k) j) (p j)))
              have S8 := hide (ElB.other (HX.out.keep KW.out) (g := wi.heap.size) (by omega) 0 1 (.int .i64 (El.ml (El.mnx p k (co k) j) (p j)).v.1) (.int .i64 (El.ml (El.mnx p k (co k) j) (p j)).v.2))
              have G8 := hide (chg2_at (HH.out.trans KW.out) wi.heap.size (fun l => absurd l (by omega)) 0 1 (.int .i64 (El.ml (El.mnx p k (co k) j) (p j)).v.1) (.int .i64 (El.ml (El.mnx p k (co k) j) (p j)).v.2))
              have NE := hide (show wo.heap.size ≠ wi.heap.size by omega)
              generalize hE : ((U1.setCell ⟨wi.heap.size, 0, none⟩ (.int .i64 (El.ml (El.mnx p k (co k) j) (p j)).v.1)).setCell ⟨wi.heap.size, 1, none⟩ (.int .i64 (El.ml (El.mnx p k (co k) j) (p j)).v.2)) = W8' at E8 S8 G8 ⊢
              clear hE SA hHeld KW E7 x0 x1 e0 e1 HX HH hxl hgl PY
              generalize hE2 : wi.heap.size = gg at E8 NE ⊢
              clear hE2
              have y0 := E8.out.c0
              have y1 := E8.out.c1
              have s0 := S8.out.c0
              have s1 := S8.out.c1
              have f0 := S8.out.fz 0
              have f1 := S8.out.fz 1
              go_wp2
              clear y0 y1 s0 s1 f0 f1
              have S9 : Hid (ElB _ wo.heap.size (El.mnx p k (co k) (j + 1))) := hide (by rw [El.mnx, hb]; exact S8.out.set (El.ml (El.mnx p k (co k) j) (p j)))
              have G9' := hide (chg2_at G8.out wo.heap.size (fun l => absurd l (by omega)) 0 1 (.int .i64 (El.ml (El.mnx p k (co k) j) (p j)).v.1) (.int .i64 (El.ml (El.mnx p k (co k) j) (p j)).v.2))
              go_roundw
              case rel => exact ⟨j + 1, by omega, by go_num, S9, G9'⟩
              case measure => simp [intOf]; omega
        · obtain rfl : n = j := by omega
          have EY := hide (HE.out.keep HH.out)
          have e0 := EY.out.c0
          have e1 := EY.out.c1
          have x0 := HX.out.c0
          have x1 := HX.out.c1
          go_wp2_with fail
          refine (exAd_el (El.sm (fun i => El.mnx p i (co i) n) k) (El.mnx p k (co k) n) _).mono ?_
          rintro e WA ⟨rfl, kA⟩
          have EA := hide (EY.out.keep (kA.alloc (.cells #[.int .i64 (El.ad (El.sm (fun i => El.mnx p i (co i) n) k) (El.mnx p k (co k) n)).v.1, .int .i64 (El.ad (El.sm (fun i => El.mnx p i (co i) n) k) (El.mnx p k (co k) n)).v.2] 31)))
          have YA := hide (ElB.new WA (El.ad (El.sm (fun i => El.mnx p i (co i) n) k) (El.mnx p k (co k) n)))
          have GA := hide (HG.out.trans (HH.out.trans (kA.alloc (.cells #[.int .i64 (El.ad (El.sm (fun i => El.mnx p i (co i) n) k) (El.mnx p k (co k) n)).v.1, .int .i64 (El.ad (El.sm (fun i => El.mnx p i (co i) n) k) (El.mnx p k (co k) n)).v.2] 31))))
          have hla : W9.heap.size < WA.heap.size := (EY.out.keep kA).lt
          clear kA EY e0 e1 x0 x1 HX HH
          obtain ⟨WB, hWB⟩ : ∃ WB, WB = WA.alloc (.cells #[.int .i64 (El.ad (El.sm (fun i => El.mnx p i (co i) n) k) (El.mnx p k (co k) n)).v.1, .int .i64 (El.ad (El.sm (fun i => El.mnx p i (co i) n) k) (El.mnx p k (co k) n)).v.2] 31) := ⟨_, rfl⟩
          rw [← hWB] at EA YA GA
          have y0 := YA.out.c0
          have y1 := YA.out.c1
          have e0 := EA.out.c0
          have e1 := EA.out.c1
          have f0 := EA.out.fz 0
          have f1 := EA.out.fz 1
          have hgoal := hWB.symm
          clear hWB
          go_wp2
          have S9 : Hid (ElB _ W9.heap.size (El.sm (fun i => El.mnx p i (co i) n) (k + 1))) := hide (EA.out.set (El.ad (El.sm (fun i => El.mnx p i (co i) n) k) (El.mnx p k (co k) n)))
          have G9' := hide (chg2_at GA.out W9.heap.size (fun l => absurd l (by omega)) 0 1 (.int .i64 (El.ad (El.sm (fun i => El.mnx p i (co i) n) k) (El.mnx p k (co k) n)).v.1) (.int .i64 (El.ad (El.sm (fun i => El.mnx p i (co i) n) k) (El.mnx p k (co k) n)).v.2))
          go_roundw
          case rel => exact ⟨k + 1, by omega, by go_num, S9, G9'⟩
          case measure => simp [intOf]; omega
    · obtain rfl : M = k := by omega
      have hs : El.sm (fun i => El.mnx p i (co i) n) M = El.tat tb p n := by
        rw [HM.out, HCO.out]
        exact El.msum_tat tb p n
      have q := HE.out
      rw [hs] at q
      have e0 := q.c0
      have e1 := q.c1
      have v0 := (V9.out.keep HG.out).c0
      have v1 := (V9.out.keep HG.out).c1
      clear hs q
      go_wp2
      go_ret
      exact ⟨rfl, (G9.out.trans HG.out).toBelow⟩

set_option maxRecDepth 100000 in
theorem lifted (os : Os) (started : os.Started) (H : Type) (enc : TypeId × Value → H) :
    ReturnsInHanded {} Try.checked os 5 .any (Rows.fnCoefsSpec.pre6 enc Try.prog Try.f5 Rows.fnCoefsRow.domain false) (Rows.fnCoefsSpec.post enc Try.prog Try.f5 false true false false) := by
  refine returnsInHanded_of_change (C := Try.checked) own started (by kernel_rfl) Try.func5
    (ChangeSpec.witness6 (enc := enc) (C := Try.checked) false ⟨#[], #[.slice none 0 0, .slice none 0 0], []⟩ 8 (by kernel_rfl) (by kernel_rfl) (by kernel_rfl) (by kernel_rfl)) ?_
  intro W base args ds gs before hval0 hW hcnd _
  have hval : ∀ (j : Nat) t v, Try.f5.params[j]? = some t → args[j]? = some v → Value.okWide Try.prog W .any base t v := hval0
  have hW' := hW
  obtain ⟨p, q, hA0, hV, rfl, hfz, hnd⟩ := hW
  have hA : DataW.TrodAll enc Try.prog W 0 (fun _ => true) true Try.f5.params.toList args.toList ds p := hA0
  rw [Try.params5] at hA hval
  obtain ⟨v0, vs0, d0, ds0, p0, q0, hargs, rfl, rfl, h0, r0⟩ := trodAll_cons hA
  obtain ⟨v1, vs1, d1, ds1, p1, q1, rfl, rfl, rfl, h1, r1⟩ := trodAll_cons r0
  obtain ⟨rfl, rfl, rfl⟩ := trodAll_nil r1
  obtain rfl : args = #[v0, v1] := by cases args; simp_all
  obtain ⟨rfl, rfl⟩ := trodVars_none hV
  obtain ⟨a0, len0, cap0, rfl⟩ := okWide_slice Try.underlying22 (hval 0 22 v0 rfl rfl)
  have k0 := h0
  have lt0 : ∀ x ∈ p0, x.block < W.heap.size := by obtain ⟨m, hm⟩ := k0; exact DataW.trod_lt m _ _ _ hm
  obtain ⟨z0, w0⟩ : ∃ zs, IsRow .u8 W a0 len0 cap0 zs := by
    obtain ⟨fuel, hf⟩ := h0
    rcases open_ints Try.underlying22 Try.underlying5 (by kernel_rfl) hf with ⟨hcs, _⟩ | ⟨x, l, c, zs, hcs, _, hl, hm, hz, _, hcell, hwz⟩
    · simp [Value.cells] at hcs
      obtain ⟨rfl, rfl, rfl⟩ := hcs
      exact ⟨[], .inl ⟨rfl, rfl, rfl, rfl⟩⟩
    · simp [Value.cells] at hcs
      obtain ⟨rfl, rfl, rfl⟩ := hcs
      exact ⟨zs, .inr ⟨_, rfl, hl, hm, by simpa using hz, hcell, hwz⟩⟩
  obtain ⟨a1, len1, cap1, rfl⟩ := okWide_slice Try.underlying22 (hval 1 22 v1 rfl rfl)
  have k1 := h1
  have lt1 : ∀ x ∈ p1, x.block < W.heap.size := by obtain ⟨m, hm⟩ := k1; exact DataW.trod_lt m _ _ _ hm
  obtain ⟨z1, w1⟩ : ∃ zs, IsRow .u8 W a1 len1 cap1 zs := by
    obtain ⟨fuel, hf⟩ := h1
    rcases open_ints Try.underlying22 Try.underlying5 (by kernel_rfl) hf with ⟨hcs, _⟩ | ⟨x, l, c, zs, hcs, _, hl, hm, hz, _, hcell, hwz⟩
    · simp [Value.cells] at hcs
      obtain ⟨rfl, rfl, rfl⟩ := hcs
      exact ⟨[], .inl ⟨rfl, rfl, rfl, rfl⟩⟩
    · simp [Value.cells] at hcs
      obtain ⟨rfl, rfl, rfl⟩ := hcs
      exact ⟨zs, .inr ⟨_, rfl, hl, hm, by simpa using hz, hcell, hwz⟩⟩
  clear hA0 hval0
  refine (walk a0 len0 cap0 z0 a1 len1 cap1 z1 W w0 w1).mono fun e W' ⟨he, bel⟩ => ?_
  subst he
  exact ⟨_, rfl, _, _, _, [], _, [], hW', trodAll_mk1 (shut_bool Try.underlying4 _), (trodAll_cons_mk (Below.trod laidOut (by kernel_rfl) (of_decide_eq_true (by kernel_rfl)) k0 bel lt0) (trodAll_cons_mk (Below.trod laidOut (by kernel_rfl) (of_decide_eq_true (by kernel_rfl)) k1 bel lt1) trodAll_mk0)), rfl, bel.frame _, fun h => by cases h⟩

theorem over : Rows.fnCoefsRow.holds Try.pinned (OpenSpec.ofChange Rows.fnCoefsSpec) :=
  OpenClaim.holds_of_wide 5 Try.f5 rfl rfl rfl rfl rfl rfl rfl ⟨rfl, rfl, rfl, rfl, rfl⟩ rfl rfl rfl rfl rfl (by kernel_rfl) Try.func5 (by kernel_rfl)
    (of_decide_eq_true (by kernel_rfl)) (by unfold Func.isWrapper; first | (rw [if_pos (by decide +kernel)]; kernel_rfl) | (rw [if_neg (by decide +kernel)]; exact ⟨rfl, rfl⟩))
    (fun os started H enc _ => lifted os started H enc)

end Go.Proofs.Ytabioonijjibnac.fnCoefs
namespace Go.Proofs.Ytabioonijjibnac
theorem FnCoefs_holds : Rows.FnCoefsSaid := fnCoefs.over
#print axioms FnCoefs_holds
end Go.Proofs.Ytabioonijjibnac
