/- For all codes (slices of bytes): the law FnTable holds: a table's polynomial has the table's values at its places, and is bound variable by variable. No condition. -/
import Derived.Test.YtabioonijjibnacRows
import Derived.WalkKit
import Derived.ProofKit
import Derived.OpenShut
import Derived.Test.YtabioonijjibnacTabL
import Derived.Test.YtabioonijjibnacSrcM
import Derived.Test.YtabioonijjibnacLawH
import Derived.Test.YtabioonijjibnacStepL
import Derived.Test.YtabioonijjibnacLawQ
import Derived.ShutString
import Derived.ChangeOld
import Derived.Below
namespace Go.Proofs.Ytabioonijjibnac.fnTable
open Go.ChangeShapes Go.WideShapes Go.ChangeAt Go.RowKit
open Go.ChangeMaps (open_string shut_string)
set_option linter.unusedVariables false

theorem own : ownKnob Try.prog.godebug = none := by kernel_rfl
theorem laidOut : laidOutB Try.prog = true := by kernel_rfl

/-- WHAT THE WALK IS TOLD OF A SLICE OF INTEGERS THAT CAME IN: it is nil; or it leads to a row of 'cap' cells, the numbers 'zs' (the first 'len' are its elements, the rest its spare room), each fitting its kind. -/
def IsRow (k : IntKind) (w : World) (a : Option Addr) (len cap : Nat) (zs : List Int) : Prop :=
  (a = none ∧ len = 0 ∧ cap = 0 ∧ zs = []) ∨
  ∃ x, a = some x ∧ len ≤ cap ∧ cap ≤ maxLen ∧ zs.length = cap ∧ (∀ i, i < zs.length → w.cell? (x.add i) = some (.int k (zs.getD i 0))) ∧ ∀ n ∈ zs, (Lit.int k n).wf = true

set_option linter.unusedSimpArgs false
set_option linter.unusedVariables false
set_option maxRecDepth 100000 in
set_option maxHeartbeats 4000000 in
theorem walk (a0 : Option Addr) (len0 cap0 : Nat) (z0 : List Int) (a1 : Option Addr) (len1 cap1 : Nat) (z1 : List Int) (w : World) (w0 : IsRow .u8 w a0 len0 cap0 z0) (w1 : IsRow .u8 w a1 len1 cap1 z1) :
    Calls Try.prog 4 #[.slice a0 len0 cap0, .slice a1 len1 cap1] w fun e w' => e = .returned (.bool true) ∧ Below w.heap.size w w' := by
  obtain ⟨hB0, hl0⟩ := bytes_of_row w0
  obtain ⟨hB1, hl1⟩ := bytes_of_row w1
  have HB0 := hide hB0
  have HB1 := hide hB1
  clear w0 w1 hB0 hB1
  by_cases hm : 1048576 < len0
  · have hm' : 1048576 < (len0 : Int) := by omega
    go_enter Try.func4, Try.ntmps4
    go_wp2_with fail
    go_ret
    exact ⟨rfl, Below.refl _ _⟩
  by_cases hn : 1048576 < len1
  · have hm' : ¬ 1048576 < (len0 : Int) := by omega
    have hn' : 1048576 < (len1 : Int) := by omega
    go_enter Try.func4, Try.ntmps4
    go_wp2_with fail
    go_ret
    exact ⟨rfl, Below.refl _ _⟩
  have hm' : ¬ 1048576 < (len0 : Int) := by omega
  have hn' : ¬ 1048576 < (len1 : Int) := by omega
  obtain ⟨i0, hi, hz0, hz1, hz2⟩ := info_parts infoExt
  have HI := hide hi
  have HZ0 := hide hz0
  have HZ1 := hide hz1
  have HZ2 := hide hz2
  clear hi hz0 hz1 hz2
  go_enter Try.func4, Try.ntmps4
  go_wp2_with fail
  refine (at_pl a1 len1 cap1 0 4 _ HB1.out hl1 (by omega) (by omega) (by omega)).mono ?_
  rintro e W1 ⟨a, rfl, ha4, k1⟩
  have G1 := hide k1
  clear k1
  obtain ⟨n, hn'⟩ : ∃ n, n = a + 1 := ⟨_, rfl⟩
  have h6 : n ≤ 6 := by omega
  have hn5 : n < 5 := by omega
  have hwn : IntKind.i64.wrap (1 + (a : Int)) = (n : Int) := by rw [IntKind.wrap_i64]; omega
  have hwn' : 1 + (a : Int) = (n : Int) := by omega
  have hn1 : 1 ≤ n := by omega
  clear hn'
  obtain ⟨M, hM⟩ : ∃ M, M = 2 ^ n := ⟨_, rfl⟩
  have HM := hide hM
  have hM32 : M ≤ 32 := by rw [hM]; exact Nat.le_trans (Nat.pow_le_pow_right (by omega) (show n ≤ 5 by omega)) (by decide)
  have hM1 : 1 ≤ M := by rw [hM]; exact Nat.one_le_two_pow
  have hpw : (2 : Int) ^ n = (M : Int) := by rw [hM]; simp
  have hn0 : (0 : Int) ≤ (n : Int) := by omega
  clear hM
  go_wp2_with fail
  refine (extsOf_any a0 len0 cap0 M _ (HB0.out.below G1.out.toBelow) hl0 (by omega)).mono ?_
  rintro e W2 ⟨f, g, ct, capt, rfl, hP, hO, k2⟩
  obtain ⟨tb, htb⟩ : ∃ tb, tb = elF f g := ⟨_, rfl⟩
  have T2 := hide (show PairE W2 ct M tb by rw [htb]; exact PairE.of hP hO)
  have G2 := hide (G1.out.trans k2)
  clear k2 hP hO htb G1
  go_wp2_with fail
  refine (extsOf_any a1 len1 cap1 n _ (HB1.out.below G2.out.toBelow) hl1 (by omega)).mono ?_
  rintro e W3 ⟨f', g', c, cap, rfl, hP, hO, k3⟩
  obtain ⟨p, hp⟩ : ∃ p, p = elF f' g' := ⟨_, rfl⟩
  have P3 := hide (show PairE W3 c n p by rw [hp]; exact PairE.of hP hO)
  have T3 := hide (T2.out.keep k3)
  have G3 := hide (G2.out.trans k3)
  clear k3 hP hO hp G2 T2
  go_wp2_with fail
  refine (tableAt_el ct c M n capt cap HM.out tb p _ T3 P3 h6).mono ?_
  rintro e W4 ⟨rfl, k4⟩
  have kA := hide (k4.alloc (.cells #[.int .i64 (El.tat tb p n).v.1, .int .i64 (El.tat tb p n).v.2] 31))
  have V4 := hide (ElB.new W4 (El.tat tb p n))
  have T4 := hide (T3.out.keep kA.out)
  have P4 := hide (P3.out.keep kA.out)
  have G4 := hide (G3.out.trans kA.out)
  clear k4 kA T3 P3 G3
  go_wp2_with fail
  refine (sTableAt_el ct c M n capt cap HM.out tb p _ T4 P4 h6).mono ?_
  rintro e W5 ⟨rfl, k5⟩
  have kA := hide (k5.alloc (.cells #[.int .i64 (El.tat tb p n).v.1, .int .i64 (El.tat tb p n).v.2] 31))
  have N5 := hide (ElB.new W5 (El.tat tb p n))
  have V5 := hide (V4.out.keep kA.out)
  have T5 := hide (T4.out.keep kA.out)
  have P5 := hide (P4.out.keep kA.out)
  have G5 := hide (G4.out.trans kA.out)
  clear k5 kA T4 P4 G4 V4
  go_wp2_with fail
  refine (at_pl a1 len1 cap1 1 M _ (HB1.out.below G5.out.toBelow) hl1 (by omega) hM1 (by omega)).mono ?_
  rintro e W7 ⟨k, rfl, hkM, k7⟩
  have N7 := hide (N5.out.keep k7)
  have V7 := hide (V5.out.keep k7)
  have T7 := hide (T5.out.keep k7)
  have P7 := hide (P5.out.keep k7)
  have G7 := hide (G5.out.trans k7)
  clear k7 N5 V5 T5 P5 G5
  go_wp2
  go_loopw [13, 14] (fun v i W => ∃ j : Nat, j ≤ n ∧ i = .int .i64 j ∧ Hid (W.ownsRow W7.heap.size 31 2 v j ((List.range (j * 2)).map (pf (cA (El.bitE k)) (cB (El.bitE k))))) ∧ Hid (Chg nob W7 W)) (fun _ i _ => n - (intOf i).toNat)
  case atStart => exact ⟨0, Nat.zero_le _, rfl, hide (flNone _ _ _ _ (Nat.le_refl _)), hide ((Chg.refl _ _).alloc _)⟩
  case round =>
    obtain ⟨j, hj, rfl, HW, HG⟩ := hrel
    rename World => wj
    by_cases hlj : j < n
    · have hj1 : (j : Int) < (n : Int) := by omega
      have hj0 : (0 : Int) ≤ (j : Int) := by omega
      have hbit := shr_bit (k := k) (j := j) (by omega) (by omega)
      have hsz := HG.out.size
      go_wp2_with (at_builtin; refine wpList_append_own _ rfl (.tmp 62) (.tmp 69) 24 rfl W7.heap.size 31 i0 (.agg #[.int .i64 0, .int .i64 0]) 2 16 Try.underlying24 HI.out HZ0.out HZ1.out HZ2.out rfl (by decide) _ j _ rfl (HW.out.alloc _) ⟨_, 0, none⟩ 1 1 [.int .i64 (El.bitE k j).v.1, .int .i64 0] rfl rfl ?c1 ?c2 ?c3 ?c4 ?c5 ?c6)
      case c1 => exact flNews _ _ _ _
      case c2 => exact flOne _ _
      case c3 => unfold maxLen; omega
      case c4 => omega
      case c5 => simp; omega
      case c6 =>
        intro v' w2 hown hgr _
        have HW2 : Hid (w2.ownsRow W7.heap.size 31 2 v' (j + 1) ((List.range ((j + 1) * 2)).map (pf (cA (El.bitE k)) (cB (El.bitE k))))) := hide (by
          rw [← flPair]
          have e2 : cB (El.bitE k) j = 0 := bitE_b k j
          rw [e2]
          exact hown)
        have HG2 := hide ((HG.out.alloc _).grown hgr (fun i e l => absurd (HW.out.lt i e).1 (by omega)))
        clear hown hgr
        go_wp2
        go_roundw
        case rel => exact ⟨j + 1, by omega, by go_num, HW2, HG2⟩
        case measure => simp [intOf]; omega
    · have hjn : j = n := by omega
      subst hjn
      obtain ⟨cq, capq, rfl, hPQ⟩ := flPairs HW.out
      have Q8 := hide (show PairE wj cq j (El.bitE k) from hPQ)
      have N8 := hide (N7.out.keep HG.out)
      have V8 := hide (V7.out.keep HG.out)
      have T8 := hide (T7.out.keep HG.out)
      have P8 := hide (P7.out.keep HG.out)
      have G8 := hide (G7.out.trans HG.out)
      clear hPQ HW HG N7 V7 T7 P7 G7
      go_wp2_with fail
      refine (tableAt_el ct cq M j capt capq HM.out tb (El.bitE k) _ T8 Q8 h6).mono ?_
      rintro e W9 ⟨rfl, k9⟩
      have HV := hide (show El.tat tb (El.bitE k) j = tb k from El.tat_bit (by rw [← HM.out]; exact hkM))
      rw [HV.out]
      have kA := hide (k9.alloc (.cells #[.int .i64 (tb k).v.1, .int .i64 (tb k).v.2] 31))
      have X9 := hide (ElB.new W9 (tb k))
      have N9 := hide (N8.out.keep kA.out)
      have V9 := hide (V8.out.keep kA.out)
      have T9 := hide (T8.out.keep kA.out)
      have P9 := hide (P8.out.keep kA.out)
      have G9 := hide (G8.out.trans kA.out)
      clear k9 kA Q8 N8 V8 T8 P8 G8
      obtain ⟨WB, hWB⟩ : ∃ WB, WB = W9.alloc (.cells #[.int .i64 (tb k).v.1, .int .i64 (tb k).v.2] 31) := ⟨_, rfl⟩
      rw [← hWB] at X9 N9 V9 T9 P9 G9
      go_wp2
      rw [← hWB]
      clear hWB
      go_loopw [17, 18] (fun v i W => ∃ (q m cpb : Nat) (cb : Option Addr), q ≤ j ∧ i = .int .i64 q ∧ v = .slice cb m cpb ∧ Hid (m = 2 ^ (j - q)) ∧ Hid (PairE W cb m (El.bnd tb p q)) ∧ Hid (Chg nob WB W)) (fun _ i _ => j - (intOf i).toNat)
      case atStart => exact ⟨0, M, capt, ct, Nat.zero_le _, rfl, rfl, HM, T9, hide (Chg.refl _ _)⟩
      case round =>
        obtain ⟨q, m, cpb, cb, hq, rfl, rfl, Hm, HT, HG⟩ := hrel
        rename World => wl
        by_cases hlq : q < j
        · have hq1 : (q : Int) < (j : Int) := by omega
          have hq0 : (0 : Int) ≤ (q : Int) := by omega
          have hPl := hide (P9.out.keep HG.out)
          obtain ⟨xb, xo, ec, hxb, _, _⟩ := PairE.at_ hPl.out hlq
          subst ec
          have x0 := PairE.c0 hPl.out hlq
          have x1 := PairE.c1 hPl.out hlq
          obtain ⟨s, hs⟩ : ∃ s, s = j - q - 1 := ⟨_, rfl⟩
          have hsj : j - q = s + 1 := by omega
          obtain ⟨m2, hm2⟩ : ∃ m2, m2 = 2 ^ s := ⟨_, rfl⟩
          have hmm : m = m2 * 2 := by have e := Hm.out; rw [hsj, Nat.pow_succ, ← hm2] at e; exact e
          have HMM := hide hmm
          have Hs := hide hs
          have HM2 := hide hm2
          have hm64 : m2 ≤ 64 := by rw [hm2]; exact pow_le6 (by omega)
          have R := fold_el cb m s cpb (by rw [Hm.out, hsj]) (El.bnd tb p q) (p q) wl HT (by omega)
          rw [← hm2] at R
          have hwm : IntKind.i64.wrap ((m2 : Int) * 2) = (m : Int) := by rw [IntKind.wrap_i64]; omega
          have hwm' : (m2 : Int) * 2 = (m : Int) := by omega
          have HR := hide R
          clear R hs hm2 hmm hsj
          go_wp2_with fail
          refine HR.out.mono ?_
          rintro e WF ⟨cf, capf, rfl, oF, kF⟩
          have TF := hide (show PairE WF cf m2 (El.bnd tb p (q + 1)) from OwnE.pairs oF)
          have GF := hide (HG.out.trans kF)
          clear oF kF HR x0 x1 hPl
          go_wp2
          go_roundw
          case rel => exact ⟨q + 1, m2, capf, cf, by omega, by go_num, rfl, hide (by rw [HM2.out, Hs.out]; congr 1), TF, GF⟩
          case measure => simp [intOf]; omega
        · obtain rfl : j = q := by omega
          have hm1 : m = 1 := by rw [Hm.out, Nat.sub_self]
          subst hm1
          obtain ⟨zb, zo, ez, hzb, _, _⟩ := PairE.at_ HT.out (i := 0) (by omega)
          subst ez
          have hb0 : El.bnd tb p j 0 = El.tat tb p j := El.bnd_all tb p j
          have z0 := PairE.c0 HT.out (i := 0) (by omega)
          have z1 := PairE.c1 HT.out (i := 0) (by omega)
          rw [hb0] at z0 z1
          have z0' : wl.cell? ⟨zb, zo, none⟩ = some (.int .i64 (El.tat tb p j).v.1) := by simpa using z0
          have z1' : wl.cell? ⟨zb, zo + 1, none⟩ = some (.int .i64 (El.tat tb p j).v.2) := by simpa using z1
          have TY := hide (T9.out.keep HG.out)
          obtain ⟨xb, xo, ec, hxb, _, _⟩ := PairE.at_ TY.out hkM
          subst ec
          have x0 := PairE.c0 TY.out hkM
          have x1 := PairE.c1 TY.out hkM
          have v0 := (V9.out.keep HG.out).c0
          have v1 := (V9.out.keep HG.out).c1
          have n0 := (N9.out.keep HG.out).c0
          have n1 := (N9.out.keep HG.out).c1
          have y0 := (X9.out.keep HG.out).c0
          have y1 := (X9.out.keep HG.out).c1
          have hk1 : (k : Int) < (M : Int) := by omega
          have hk0 : (0 : Int) ≤ (k : Int) := by omega
          clear z0 z1 hb0
          go_wp2
          have KW := hide ((Chg.refl nob wl).drew1)
          have SA := hide (fun (WW : World) (kW : Chg nob wl WW) => (show (WW.cell? ⟨W4.heap.size, 0, none⟩ = some (.int .i64 (El.tat tb p j).v.1) ∧ WW.cell? ⟨W4.heap.size, 1, none⟩ = some (.int .i64 (El.tat tb p j).v.2) ∧ WW.cell? ⟨W5.heap.size, 0, none⟩ = some (.int .i64 (El.tat tb p j).v.1) ∧ WW.cell? ⟨W5.heap.size, 1, none⟩ = some (.int .i64 (El.tat tb p j).v.2) ∧ WW.cell? ⟨W9.heap.size, 0, none⟩ = some (.int .i64 (tb k).v.1) ∧ WW.cell? ⟨W9.heap.size, 1, none⟩ = some (.int .i64 (tb k).v.2) ∧ WW.cell? ⟨xb, xo + k * 2, none⟩ = some (.int .i64 (tb k).v.1) ∧ WW.cell? ⟨xb, xo + k * 2 + 1, none⟩ = some (.int .i64 (tb k).v.2) ∧ WW.cell? ⟨zb, zo, none⟩ = some (.int .i64 (El.tat tb p j).v.1) ∧ WW.cell? ⟨zb, zo + 1, none⟩ = some (.int .i64 (El.tat tb p j).v.2)) from ⟨kW.see v0, kW.see v1, kW.see n0, kW.see n1, kW.see y0, kW.see y1, kW.see x0, kW.see x1, kW.see z0', kW.see z1'⟩))
          refine wp_region_held_drew (S := fun w' => w'.cell? ⟨W4.heap.size, 0, none⟩ = some (.int .i64 (El.tat tb p j).v.1) ∧ w'.cell? ⟨W4.heap.size, 1, none⟩ = some (.int .i64 (El.tat tb p j).v.2) ∧ w'.cell? ⟨W5.heap.size, 0, none⟩ = some (.int .i64 (El.tat tb p j).v.1) ∧ w'.cell? ⟨W5.heap.size, 1, none⟩ = some (.int .i64 (El.tat tb p j).v.2) ∧ w'.cell? ⟨W9.heap.size, 0, none⟩ = some (.int .i64 (tb k).v.1) ∧ w'.cell? ⟨W9.heap.size, 1, none⟩ = some (.int .i64 (tb k).v.2) ∧ w'.cell? ⟨xb, xo + k * 2, none⟩ = some (.int .i64 (tb k).v.1) ∧ w'.cell? ⟨xb, xo + k * 2 + 1, none⟩ = some (.int .i64 (tb k).v.2) ∧ w'.cell? ⟨zb, zo, none⟩ = some (.int .i64 (El.tat tb p j).v.1) ∧ w'.cell? ⟨zb, zo + 1, none⟩ = some (.int .i64 (El.tat tb p j).v.2)) (by kernel_rfl) ⟨v0, v1, n0, n1, y0, y1, x0, x1, z0', z1'⟩ (fun hHeld => ?_)
          refine wpAnyH_take (i := 0) (v := ?_) rfl (by kernel_rfl) (by kernel_rfl) (by kernel_rfl) (fun _ _ _ h => h) (Or.inl ⟨by rfl, ?_⟩) (by assumption) ?_
          rotate_left 1
          · (intro w' hSw; (try dsimp only at hSw); go_simp; try with_reducible rfl)
          try simp only [Act.put, List.setIfInBounds_toArray, List.set_cons_zero, List.set_cons_succ, List.getElem_toArray, List.getElem_cons_zero, List.getElem_cons_succ]
          refine wpAnyH_take (i := 1) (v := .bool true) rfl (by kernel_rfl) (by kernel_rfl) (by kernel_rfl) (fun _ _ _ h => h) (Or.inl ⟨by rfl, ?_⟩) (by assumption) ?_
          · (intro w' hSw; (try dsimp only at hSw); go_simp; first | done | rfl | simp [*])
          try simp only [Act.put, List.setIfInBounds_toArray, List.set_cons_zero, List.set_cons_succ, List.getElem_toArray, List.getElem_cons_zero, List.getElem_cons_succ]
          refine wpAnyH_take (i := 2) (v := ?_) rfl (by kernel_rfl) (by kernel_rfl) (by kernel_rfl) (fun _ _ _ h => h) (Or.inl ⟨by rfl, ?_⟩) (by assumption) ?_
          rotate_left 1
          · (intro w' hSw; (try dsimp only at hSw); go_simp; try with_reducible rfl)
          try simp only [Act.put, List.setIfInBounds_toArray, List.set_cons_zero, List.set_cons_succ, List.getElem_toArray, List.getElem_cons_zero, List.getElem_cons_succ]
          refine wpAnyH_take (i := 3) (v := ?_) rfl (by kernel_rfl) (by kernel_rfl) (by kernel_rfl) (fun _ _ _ h => h) (Or.inl ⟨by rfl, ?_⟩) (by assumption) ?_
          rotate_left 1
          · (intro w' hSw; (try dsimp only at hSw); go_simp; try with_reducible rfl)
          try simp only [Act.put, List.setIfInBounds_toArray, List.set_cons_zero, List.set_cons_succ, List.getElem_toArray, List.getElem_cons_zero, List.getElem_cons_succ]
          refine wpAnyH_take (i := 4) (v := ?_) rfl (by kernel_rfl) (by kernel_rfl) (by kernel_rfl) (fun _ _ _ h => h) (Or.inl ⟨by rfl, ?_⟩) (by assumption) ?_
          rotate_left 1
          · (intro w' hSw; (try dsimp only at hSw); go_simp; try with_reducible rfl)
          try simp only [Act.put, List.setIfInBounds_toArray, List.set_cons_zero, List.set_cons_succ, List.getElem_toArray, List.getElem_cons_zero, List.getElem_cons_succ]
          refine wpAnyH_take (i := 5) (v := .bool true) rfl (by kernel_rfl) (by kernel_rfl) (by kernel_rfl) (fun _ _ _ h => h) (Or.inl ⟨by rfl, ?_⟩) (by assumption) ?_
          · (intro w' hSw; (try dsimp only at hSw); go_simp; first | done | rfl | simp [*])
          try simp only [Act.put, List.setIfInBounds_toArray, List.set_cons_zero, List.set_cons_succ, List.getElem_toArray, List.getElem_cons_zero, List.getElem_cons_succ]
          refine wpAnyH_take (i := 6) (v := ?_) rfl (by kernel_rfl) (by kernel_rfl) (by kernel_rfl) (fun _ _ _ h => h) (Or.inl ⟨by rfl, ?_⟩) (by assumption) ?_
          rotate_left 1
          · (intro w' hSw; (try dsimp only at hSw); go_simp; try with_reducible rfl)
          try simp only [Act.put, List.setIfInBounds_toArray, List.set_cons_zero, List.set_cons_succ, List.getElem_toArray, List.getElem_cons_zero, List.getElem_cons_succ]
          refine wpAnyH_take (i := 7) (v := ?_) rfl (by kernel_rfl) (by kernel_rfl) (by kernel_rfl) (fun _ _ _ h => h) (Or.inl ⟨by rfl, ?_⟩) (by assumption) ?_
          rotate_left 1
          · (intro w' hSw; (try dsimp only at hSw); go_simp; try with_reducible rfl)
          try simp only [Act.put, List.setIfInBounds_toArray, List.set_cons_zero, List.set_cons_succ, List.getElem_toArray, List.getElem_cons_zero, List.getElem_cons_succ]
          refine wpAnyH_take (i := 8) (v := ?_) rfl (by kernel_rfl) (by kernel_rfl) (by kernel_rfl) (fun _ _ _ h => h) (Or.inl ⟨by rfl, ?_⟩) (by assumption) ?_
          rotate_left 1
          · (intro w' hSw; (try dsimp only at hSw); go_simp; try with_reducible rfl)
          try simp only [Act.put, List.setIfInBounds_toArray, List.set_cons_zero, List.set_cons_succ, List.getElem_toArray, List.getElem_cons_zero, List.getElem_cons_succ]
          refine wpAnyH_take (i := 9) (v := .bool true) rfl (by kernel_rfl) (by kernel_rfl) (by kernel_rfl) (fun _ _ _ h => h) (Or.inl ⟨by rfl, ?_⟩) (by assumption) ?_
          · (intro w' hSw; (try dsimp only at hSw); go_simp; first | done | rfl | simp [*])
          try simp only [Act.put, List.setIfInBounds_toArray, List.set_cons_zero, List.set_cons_succ, List.getElem_toArray, List.getElem_cons_zero, List.getElem_cons_succ]
          refine wpAnyH_take (i := 10) (v := ?_) rfl (by kernel_rfl) (by kernel_rfl) (by kernel_rfl) (fun _ _ _ h => h) (Or.inl ⟨by rfl, ?_⟩) (by assumption) ?_
          rotate_left 1
          · (intro w' hSw; (try dsimp only at hSw); go_simp; try with_reducible rfl)
          try simp only [Act.put, List.setIfInBounds_toArray, List.set_cons_zero, List.set_cons_succ, List.getElem_toArray, List.getElem_cons_zero, List.getElem_cons_succ]
          refine wpAnyH_take (i := 11) (v := ?_) rfl (by kernel_rfl) (by kernel_rfl) (by kernel_rfl) (fun _ _ _ h => h) (Or.inl ⟨by rfl, ?_⟩) (by assumption) ?_
          rotate_left 1
          · (intro w' hSw; (try dsimp only at hSw); go_simp; try with_reducible rfl)
          try simp only [Act.put, List.setIfInBounds_toArray, List.set_cons_zero, List.set_cons_succ, List.getElem_toArray, List.getElem_cons_zero, List.getElem_cons_succ]
          refine wpAnyH_take (i := 12) (v := ?_) rfl (by kernel_rfl) (by kernel_rfl) (by kernel_rfl) (fun _ _ _ h => h) (Or.inl ⟨by rfl, ?_⟩) (by assumption) ?_
          rotate_left 1
          · (intro w' hSw; (try dsimp only at hSw); go_simp; try with_reducible rfl)
          try simp only [Act.put, List.setIfInBounds_toArray, List.set_cons_zero, List.set_cons_succ, List.getElem_toArray, List.getElem_cons_zero, List.getElem_cons_succ]
          refine wpAnyH_take (i := 13) (v := ?_) rfl (by kernel_rfl) (by kernel_rfl) (by kernel_rfl) (fun _ _ _ h => h) (Or.inl ⟨by rfl, ?_⟩) (by assumption) ?_
          rotate_left 1
          · (intro w' hSw; (try dsimp only at hSw); go_simp; try with_reducible rfl)
          try simp only [Act.put, List.setIfInBounds_toArray, List.set_cons_zero, List.set_cons_succ, List.getElem_toArray, List.getElem_cons_zero, List.getElem_cons_succ]
          refine wpAnyH_take (i := 14) (v := ?_) rfl (by kernel_rfl) (by kernel_rfl) (by kernel_rfl) (fun _ _ _ h => h) (Or.inl ⟨by rfl, ?_⟩) (by assumption) ?_
          rotate_left 1
          · (intro w' hSw; (try dsimp only at hSw); go_simp; try with_reducible rfl)
          try simp only [Act.put, List.setIfInBounds_toArray, List.set_cons_zero, List.set_cons_succ, List.getElem_toArray, List.getElem_cons_zero, List.getElem_cons_succ]
          refine wpAnyH_take (i := 15) (v := ?_) rfl (by kernel_rfl) (by kernel_rfl) (by kernel_rfl) (fun _ _ _ h => h) (Or.inl ⟨by rfl, ?_⟩) (by assumption) ?_
          rotate_left 1
          · (intro w' hSw; (try dsimp only at hSw); go_simp; try with_reducible rfl)
          try simp only [Act.put, List.setIfInBounds_toArray, List.set_cons_zero, List.set_cons_succ, List.getElem_toArray, List.getElem_cons_zero, List.getElem_cons_succ]
          refine wpAnyH_take (i := 16) (v := ?_) rfl (by kernel_rfl) (by kernel_rfl) (by kernel_rfl) (fun _ _ _ h => h) (Or.inl ⟨by rfl, ?_⟩) (by assumption) ?_
          rotate_left 1
          · (intro w' hSw; (try dsimp only at hSw); go_simp; try with_reducible rfl)
          try simp only [Act.put, List.setIfInBounds_toArray, List.set_cons_zero, List.set_cons_succ, List.getElem_toArray, List.getElem_cons_zero, List.getElem_cons_succ]
          refine wpAnyH_take (i := 17) (v := .bool true) rfl (by kernel_rfl) (by kernel_rfl) (by kernel_rfl) (fun _ _ _ h => h) (Or.inl ⟨by rfl, ?_⟩) (by assumption) ?_
          · (intro w' hSw; (try dsimp only at hSw); go_simp; first | done | rfl | simp [*])
          try simp only [Act.put, List.setIfInBounds_toArray, List.set_cons_zero, List.set_cons_succ, List.getElem_toArray, List.getElem_cons_zero, List.getElem_cons_succ]
          refine wpAnyH_take (i := 18) (v := ?_) rfl (by kernel_rfl) (by kernel_rfl) (by kernel_rfl) (fun _ _ _ h => h) (Or.inl ⟨by rfl, ?_⟩) (by assumption) ?_
          rotate_left 1
          · (intro w' hSw; (try dsimp only at hSw); go_simp; try with_reducible rfl)
          try simp only [Act.put, List.setIfInBounds_toArray, List.set_cons_zero, List.set_cons_succ, List.getElem_toArray, List.getElem_cons_zero, List.getElem_cons_succ]
          refine wpAnyH_take (i := 19) (v := ?_) rfl (by kernel_rfl) (by kernel_rfl) (by kernel_rfl) (fun _ _ _ h => h) (Or.inl ⟨by rfl, ?_⟩) (by assumption) ?_
          rotate_left 1
          · (intro w' hSw; (try dsimp only at hSw); go_simp; try with_reducible rfl)
          try simp only [Act.put, List.setIfInBounds_toArray, List.set_cons_zero, List.set_cons_succ, List.getElem_toArray, List.getElem_cons_zero, List.getElem_cons_succ]
          refine wpAnyH_take (i := 20) (v := ?_) rfl (by kernel_rfl) (by kernel_rfl) (by kernel_rfl) (fun _ _ _ h => h) (Or.inl ⟨by rfl, ?_⟩) (by assumption) ?_
          rotate_left 1
          · (intro w' hSw; (try dsimp only at hSw); go_simp; try with_reducible rfl)
          try simp only [Act.put, List.setIfInBounds_toArray, List.set_cons_zero, List.set_cons_succ, List.getElem_toArray, List.getElem_cons_zero, List.getElem_cons_succ]
          refine wpAnyH_take (i := 21) (v := ?_) rfl (by kernel_rfl) (by kernel_rfl) (by kernel_rfl) (fun _ _ _ h => h) (Or.inl ⟨by rfl, ?_⟩) (by assumption) ?_
          rotate_left 1
          · (intro w' hSw; (try dsimp only at hSw); go_simp; try with_reducible rfl)
          try simp only [Act.put, List.setIfInBounds_toArray, List.set_cons_zero, List.set_cons_succ, List.getElem_toArray, List.getElem_cons_zero, List.getElem_cons_succ]
          refine wpAnyH_take (i := 22) (v := ?_) rfl (by kernel_rfl) (by kernel_rfl) (by kernel_rfl) (fun _ _ _ h => h) (Or.inl ⟨by rfl, ?_⟩) (by assumption) ?_
          rotate_left 1
          · (intro w' hSw; (try dsimp only at hSw); go_simp; try with_reducible rfl)
          try simp only [Act.put, List.setIfInBounds_toArray, List.set_cons_zero, List.set_cons_succ, List.getElem_toArray, List.getElem_cons_zero, List.getElem_cons_succ]
          refine wpAnyH_take (i := 23) (v := ?_) rfl (by kernel_rfl) (by kernel_rfl) (by kernel_rfl) (fun _ _ _ h => h) (Or.inl ⟨by rfl, ?_⟩) (by assumption) ?_
          rotate_left 1
          · (intro w' hSw; (try dsimp only at hSw); go_simp; try with_reducible rfl)
          try simp only [Act.put, List.setIfInBounds_toArray, List.set_cons_zero, List.set_cons_succ, List.getElem_toArray, List.getElem_cons_zero, List.getElem_cons_succ]
          refine wpAnyH_take (i := 24) (v := .bool true) rfl (by kernel_rfl) (by kernel_rfl) (by kernel_rfl) (fun _ _ _ h => h) (Or.inl ⟨by rfl, ?_⟩) (by assumption) ?_
          · (intro w' hSw; (try dsimp only at hSw); go_simp; first | done | rfl | simp [*])
          try simp only [Act.put, List.setIfInBounds_toArray, List.set_cons_zero, List.set_cons_succ, List.getElem_toArray, List.getElem_cons_zero, List.getElem_cons_succ]
          refine wpAnyH_take (i := 25) (v := ?_) rfl (by kernel_rfl) (by kernel_rfl) (by kernel_rfl) (fun _ _ _ h => h) (Or.inl ⟨by rfl, ?_⟩) (by assumption) ?_
          rotate_left 1
          · (intro w' hSw; (try dsimp only at hSw); go_simp; try with_reducible rfl)
          try simp only [Act.put, List.setIfInBounds_toArray, List.set_cons_zero, List.set_cons_succ, List.getElem_toArray, List.getElem_cons_zero, List.getElem_cons_succ]
          refine wpAnyH_take (i := 26) (v := ?_) rfl (by kernel_rfl) (by kernel_rfl) (by kernel_rfl) (fun _ _ _ h => h) (Or.inl ⟨by rfl, ?_⟩) (by assumption) ?_
          rotate_left 1
          · (intro w' hSw; (try dsimp only at hSw); go_simp; try with_reducible rfl)
          try simp only [Act.put, List.setIfInBounds_toArray, List.set_cons_zero, List.set_cons_succ, List.getElem_toArray, List.getElem_cons_zero, List.getElem_cons_succ]
          refine wpAnyH_take (i := 27) (v := ?_) rfl (by kernel_rfl) (by kernel_rfl) (by kernel_rfl) (fun _ _ _ h => h) (Or.inl ⟨by rfl, ?_⟩) (by assumption) ?_
          rotate_left 1
          · (intro w' hSw; (try dsimp only at hSw); go_simp; try with_reducible rfl)
          try simp only [Act.put, List.setIfInBounds_toArray, List.set_cons_zero, List.set_cons_succ, List.getElem_toArray, List.getElem_cons_zero, List.getElem_cons_succ]
          refine wpAnyH_ready (rs := [28]) (by kernel_rfl) (by simp) ?_
          refine AllReadyH.cons rfl (fun K hK => ?_) AllReadyH.nil
          refine stepL_callN 17 #[.tmp 130] #[24] (by rfl) (by rfl) #[.slice (some ⟨xb, xo, none⟩) M capt] (by simp only [List.map_toArray, List.map_cons, List.map_nil] <;> rfl) (run_go Try.func17 (by kernel_rfl) (by kernel_rfl) _ _) (tableOK_el _ M j capt HM.out tb _ (hide (TY.out.keep KW.out)) h6) ?_
          rintro e U1 ⟨he, kk⟩
          refine ⟨_, he, ?_⟩
          replace KW := hide (KW.out.trans kk)
          refine hK.out _ _ (SA.out _ KW.out) (fun hHeld => ?_)
          clear hK K
          try simp only [Act.put, List.setIfInBounds_toArray, List.set_cons_zero, List.set_cons_succ, List.getElem_toArray, List.getElem_cons_zero, List.getElem_cons_succ]
          clear he kk
          refine wpAnyH_take (i := 29) (v := ?_) rfl (by kernel_rfl) (by kernel_rfl) (by kernel_rfl) (fun _ _ _ h => h) (Or.inl ⟨by rfl, ?_⟩) (by assumption) ?_
          rotate_left 1
          · (intro w' hSw; (try dsimp only at hSw); go_simp; try with_reducible rfl)
          try simp only [Act.put, List.setIfInBounds_toArray, List.set_cons_zero, List.set_cons_succ, List.getElem_toArray, List.getElem_cons_zero, List.getElem_cons_succ]
          refine wpAnyH_take (i := 30) (v := ?_) rfl (by kernel_rfl) (by kernel_rfl) (by kernel_rfl) (fun _ _ _ h => h) (Or.inl ⟨by rfl, ?_⟩) (by assumption) ?_
          rotate_left 1
          · (intro w' hSw; (try dsimp only at hSw); go_simp; try with_reducible rfl)
          try simp only [Act.put, List.setIfInBounds_toArray, List.set_cons_zero, List.set_cons_succ, List.getElem_toArray, List.getElem_cons_zero, List.getElem_cons_succ]
          refine wpAnyH_done (by kernel_rfl) ?_ _
          go_wp2
          go_ret
          exact ⟨rfl, (G9.out.trans (HG.out.trans KW.out)).toBelow⟩

set_option maxRecDepth 100000 in
theorem lifted (os : Os) (started : os.Started) (H : Type) (enc : TypeId × Value → H) :
    ReturnsInHanded {} Try.checked os 4 .any (Rows.fnTableSpec.pre6 enc Try.prog Try.f4 Rows.fnTableRow.domain false) (Rows.fnTableSpec.post enc Try.prog Try.f4 false true false false) := by
  refine returnsInHanded_of_change (C := Try.checked) own started (by kernel_rfl) Try.func4
    (ChangeSpec.witness6 (enc := enc) (C := Try.checked) false ⟨#[], #[.slice none 0 0, .slice none 0 0], []⟩ 8 (by kernel_rfl) (by kernel_rfl) (by kernel_rfl) (by kernel_rfl)) ?_
  intro W base args ds gs before hval0 hW hcnd _
  have hval : ∀ (j : Nat) t v, Try.f4.params[j]? = some t → args[j]? = some v → Value.okWide Try.prog W .any base t v := hval0
  have hW' := hW
  obtain ⟨p, q, hA0, hV, rfl, hfz, hnd⟩ := hW
  have hA : DataW.TrodAll enc Try.prog W 0 (fun _ => true) true Try.f4.params.toList args.toList ds p := hA0
  rw [Try.params4] at hA hval
  obtain ⟨v0, vs0, d0, ds0, p0, q0, hargs, rfl, rfl, h0, r0⟩ := trodAll_cons hA
  obtain ⟨v1, vs1, d1, ds1, p1, q1, rfl, rfl, rfl, h1, r1⟩ := trodAll_cons r0
  obtain ⟨rfl, rfl, rfl⟩ := trodAll_nil r1
  obtain rfl : args = #[v0, v1] := by cases args; simp_all
  obtain ⟨rfl, rfl⟩ := trodVars_none hV
  obtain ⟨a0, len0, cap0, rfl⟩ := okWide_slice Try.underlying22 (hval 0 22 v0 rfl rfl)
  have k0 := h0
  have lt0 : ∀ x ∈ p0, x.block < W.heap.size := by obtain ⟨m, hm⟩ := k0; exact DataW.trod_lt m _ _ _ hm
  obtain ⟨z0, w0⟩ : ∃ zs, IsRow .u8 W a0 len0 cap0 zs := by
    obtain ⟨fuel, hf⟩ := h0
    rcases open_ints Try.underlying22 Try.underlying5 (by kernel_rfl) hf with ⟨hcs, _⟩ | ⟨x, l, c, zs, hcs, _, hl, hm, hz, _, hcell, hwz⟩
    · simp [Value.cells] at hcs
      obtain ⟨rfl, rfl, rfl⟩ := hcs
      exact ⟨[], .inl ⟨rfl, rfl, rfl, rfl⟩⟩
    · simp [Value.cells] at hcs
      obtain ⟨rfl, rfl, rfl⟩ := hcs
      exact ⟨zs, .inr ⟨_, rfl, hl, hm, by simpa using hz, hcell, hwz⟩⟩
  obtain ⟨a1, len1, cap1, rfl⟩ := okWide_slice Try.underlying22 (hval 1 22 v1 rfl rfl)
  have k1 := h1
  have lt1 : ∀ x ∈ p1, x.block < W.heap.size := by obtain ⟨m, hm⟩ := k1; exact DataW.trod_lt m _ _ _ hm
  obtain ⟨z1, w1⟩ : ∃ zs, IsRow .u8 W a1 len1 cap1 zs := by
    obtain ⟨fuel, hf⟩ := h1
    rcases open_ints Try.underlying22 Try.underlying5 (by kernel_rfl) hf with ⟨hcs, _⟩ | ⟨x, l, c, zs, hcs, _, hl, hm, hz, _, hcell, hwz⟩
    · simp [Value.cells] at hcs
      obtain ⟨rfl, rfl, rfl⟩ := hcs
      exact ⟨[], .inl ⟨rfl, rfl, rfl, rfl⟩⟩
    · simp [Value.cells] at hcs
      obtain ⟨rfl, rfl, rfl⟩ := hcs
      exact ⟨zs, .inr ⟨_, rfl, hl, hm, by simpa using hz, hcell, hwz⟩⟩
  clear hA0 hval0
  refine (walk a0 len0 cap0 z0 a1 len1 cap1 z1 W w0 w1).mono fun e W' ⟨he, bel⟩ => ?_
  subst he
  exact ⟨_, rfl, _, _, _, [], _, [], hW', trodAll_mk1 (shut_bool Try.underlying4 _), (trodAll_cons_mk (Below.trod laidOut (by kernel_rfl) (of_decide_eq_true (by kernel_rfl)) k0 bel lt0) (trodAll_cons_mk (Below.trod laidOut (by kernel_rfl) (of_decide_eq_true (by kernel_rfl)) k1 bel lt1) trodAll_mk0)), rfl, bel.frame _, fun h => by cases h⟩

theorem over : Rows.fnTableRow.holds Try.pinned (OpenSpec.ofChange Rows.fnTableSpec) :=
  OpenClaim.holds_of_wide 4 Try.f4 rfl rfl rfl rfl rfl rfl rfl ⟨rfl, rfl, rfl, rfl, rfl⟩ rfl rfl rfl rfl rfl (by kernel_rfl) Try.func4 (by kernel_rfl)
    (of_decide_eq_true (by kernel_rfl)) (by unfold Func.isWrapper; first | (rw [if_pos (by decide +kernel)]; kernel_rfl) | (rw [if_neg (by decide +kernel)]; exact ⟨rfl, rfl⟩))
    (fun os started H enc _ => lifted os started H enc)

end Go.Proofs.Ytabioonijjibnac.fnTable
namespace Go.Proofs.Ytabioonijjibnac
theorem FnTable_holds : Rows.FnTableSaid := fnTable.over
#print axioms FnTable_holds
end Go.Proofs.Ytabioonijjibnac
