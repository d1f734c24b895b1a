/- For all codes (slices of bytes): the law FnLine holds: a polynomial through values has them, and values of a polynomial of a lesser degree lead to it. No condition. -/
import Derived.Test.YtmcdkmohjmcjbacRows
import Derived.WalkKit
import Derived.ProofKit
import Derived.OpenShut
import Derived.Test.YtmcdkmohjmcjbacWrdL
import Derived.Test.YtmcdkmohjmcjbacBdr
import Derived.Test.YtmcdkmohjmcjbacBdq
import Derived.Test.YtmcdkmohjmcjbacBdb
import Derived.Test.YtmcdkmohjmcjbacStepL
import Derived.ShutString
import Derived.ChangeOld
import Derived.Below
namespace Go.Proofs.Ytmcdkmohjmcjbac.fnLine
open Go.ChangeShapes Go.WideShapes Go.ChangeAt Go.RowKit
open Go.ChangeMaps (open_string shut_string)
set_option linter.unusedVariables false

theorem own : ownKnob Try.prog.godebug = none := by kernel_rfl
theorem laidOut : laidOutB Try.prog = true := by kernel_rfl

/-- WHAT THE WALK IS TOLD OF A SLICE OF INTEGERS THAT CAME IN: it is nil; or it leads to a row of 'cap' cells, the numbers 'zs' (the first 'len' are its elements, the rest its spare room), each fitting its kind. -/
def IsRow (k : IntKind) (w : World) (a : Option Addr) (len cap : Nat) (zs : List Int) : Prop :=
  (a = none ∧ len = 0 ∧ cap = 0 ∧ zs = []) ∨
  ∃ x, a = some x ∧ len ≤ cap ∧ cap ≤ maxLen ∧ zs.length = cap ∧ (∀ i, i < zs.length → w.cell? (x.add i) = some (.int k (zs.getD i 0))) ∧ ∀ n ∈ zs, (Lit.int k n).wf = true

set_option linter.unusedSimpArgs false
set_option linter.unusedVariables false
set_option maxRecDepth 100000 in
set_option maxHeartbeats 4000000 in
theorem walk (a0 : Option Addr) (len0 cap0 : Nat) (z0 : List Int) (a1 : Option Addr) (len1 cap1 : Nat) (z1 : List Int) (w : World) (w0 : IsRow .u8 w a0 len0 cap0 z0) (w1 : IsRow .u8 w a1 len1 cap1 z1) :
    Calls Try.prog 6 #[.slice a0 len0 cap0, .slice a1 len1 cap1] w fun e w' => e = .returned (.bool true) ∧ Below w.heap.size w w' := by
  obtain ⟨hB0, hl0⟩ := bytes_of_row w0
  obtain ⟨hB1, hl1⟩ := bytes_of_row w1
  have HB0 := hide hB0
  have HB1 := hide hB1
  clear w0 w1 hB0 hB1
  by_cases hm : 1048576 < len0
  · have hm' : 1048576 < (len0 : Int) := by omega
    go_enter Try.func6, Try.ntmps6
    go_wp2_with fail
    go_ret
    exact ⟨rfl, Below.refl _ _⟩
  by_cases hn : 1048576 < len1
  · have hm' : ¬ 1048576 < (len0 : Int) := by omega
    have hn' : 1048576 < (len1 : Int) := by omega
    go_enter Try.func6, Try.ntmps6
    go_wp2_with fail
    go_ret
    exact ⟨rfl, Below.refl _ _⟩
  have hm' : ¬ 1048576 < (len0 : Int) := by omega
  have hn' : ¬ 1048576 < (len1 : Int) := by omega
  obtain ⟨i0, hi, hz0, hz1, hz2⟩ := info_parts infoExt
  have HI := hide hi
  have HZ0 := hide hz0
  have HZ1 := hide hz1
  have HZ2 := hide hz2
  clear hi hz0 hz1 hz2
  go_enter Try.func6, Try.ntmps6
  go_wp2_with fail
  refine (at_pl a1 len1 cap1 0 6 _ HB1.out hl1 (by omega) (by omega) (by omega)).mono ?_
  rintro e W1 ⟨j, rfl, hj6, k1⟩
  have G1 := hide k1
  clear k1
  obtain ⟨n, hn⟩ : ∃ n, n = 1 + j := ⟨_, rfl⟩
  have hwn : IntKind.i64.wrap (1 + (j : Int)) = (n : Int) := by rw [IntKind.wrap_i64]; omega
  have hn6 : n ≤ 6 := by omega
  have hn1 : 1 ≤ n := by omega
  clear hn
  go_wp2_with fail
  refine (extsOf_any a0 len0 cap0 n _ (HB0.out.below G1.out.toBelow) hl0 (by omega)).mono ?_
  rintro e W2 ⟨f, g, ct, capt, rfl, hP, hO, k2⟩
  obtain ⟨co, hco⟩ : ∃ co, co = elF f g := ⟨_, rfl⟩
  have T2 := hide (show PairE W2 ct n co by rw [hco]; exact PairE.of hP hO)
  have G2 := hide (G1.out.trans k2)
  clear k2 hP hO hco G1
  go_wp2_with fail
  refine (extOf_any a1 len1 cap1 _ (HB1.out.below G2.out.toBelow) hl1).mono ?_
  rintro e W3 ⟨xa, xb, rfl, hxo, k3⟩
  obtain ⟨x, hxa, hxb⟩ : ∃ x : El, xa = x.v.1 ∧ xb = x.v.2 := ⟨elP xa xb, by rw [elP_v hxo], by rw [elP_v hxo]⟩
  subst hxa hxb
  have kA := hide (k3.alloc (.cells #[.int .i64 x.v.1, .int .i64 x.v.2] 31))
  have X3 := hide (ElB.new W3 x)
  have T3 := hide (T2.out.keep kA.out)
  have G3 := hide (G2.out.trans kA.out)
  have hs3 : W2.heap.size ≤ W3.heap.size := k3.size
  clear k3 kA T2 hxo
  obtain ⟨vv, hvv⟩ : ∃ vv, vv = fun i => El.pl co (El.nb i) n := ⟨_, rfl⟩
  have HVV := hide (show ∀ i, El.pl co (El.nb i) n = vv i from fun i => by rw [hvv])
  have HLG := hide (show ∀ z, El.lag vv z n = El.pl co z n from fun z => by rw [hvv]; exact El.lag_pl co z (by omega))
  clear hvv
  go_wp2_with fail
  generalize hE : W3.alloc (.cells #[.int .i64 x.v.1, .int .i64 x.v.2] 31) = W4 at X3 T3 G3 ⊢
  have hW4 : W3.heap.size < W4.heap.size := X3.out.lt
  have H4E := hide (show W4.heap.size = W3.heap.size + 1 by rw [← hE]; simp)
  clear hE
  go_loopw [8, 9] (fun v i W => ∃ k : Nat, k ≤ n ∧ i = .int .i64 (k : Int) ∧ Hid (W.ownsRow W4.heap.size 31 2 v k ((List.range (k * 2)).map (pf (cA vv) (cB vv)))) ∧ Hid (Chg nob W4 W)) (fun _ i _ => n - (intOf i).toNat)
  case atStart => exact ⟨0, Nat.zero_le _, rfl, hide (by rw [← H4E.out]; exact flNone W4 W4.heap.size 31 2 (Nat.le_refl _)), hide ((Chg.refl _ _).alloc _)⟩
  case round =>
    obtain ⟨k, hk, rfl, HW, HG⟩ := hrel
    rename World => wi
    by_cases hlt : k < n
    · have hk1 : (k : Int) < (n : Int) := by omega
      have hsz := HG.out.size
      go_wp2_with fail
      refine (polyA_el ct n capt co (El.nb k) (k : Int) 0 (nb_v (by omega)).symm (nb_w k).symm _ (hide (T3.out.keep HG.out)) (by omega)).mono ?_
      rintro e WA ⟨rfl, kk⟩
      rw [HVV.out k]
      have kB := hide (kk.alloc (.cells #[.int .i64 (vv k).v.1, .int .i64 (vv k).v.2] 31))
      have K10 := hide (ElB.new WA (vv k))
      have HW1 := hide (flKeep HW.out kB.out)
      have HG1 := hide (HG.out.trans kB.out)
      clear kk kB HW HG
      go_upto_region 13 with fail
      generalize hE : WA.alloc (.cells #[.int .i64 (vv k).v.1, .int .i64 (vv k).v.2] 31) = WB at K10 HW1 HG1 ⊢
      clear hE
      have y0 := K10.out.c0
      have y1 := K10.out.c1
      have hsz1 := HG1.out.size
      go_wp2_with (at_builtin; refine wpList_append_own _ rfl (.tmp 54) (.tmp 56) 24 rfl W4.heap.size 31 i0 (.agg #[.int .i64 0, .int .i64 0]) 2 16 Try.underlying24 HI.out HZ0.out HZ1.out HZ2.out rfl (by decide) _ k _ rfl (HW1.out.alloc _) ⟨_, 0, none⟩ 1 1 [.int .i64 (vv k).v.1, .int .i64 (vv k).v.2] rfl rfl ?c1 ?c2 ?c3 ?c4 ?c5 ?c6)
      case c1 => exact flNews _ _ _ _
      case c2 => exact flOne _ _
      case c3 => unfold maxLen; omega
      case c4 => omega
      case c5 => simp; (first | omega | (simp at hsz1; omega))
      case c6 =>
        intro v' w2 hown hgr _
        have HW2 : Hid (w2.ownsRow W4.heap.size 31 2 v' (k + 1) ((List.range ((k + 1) * 2)).map (pf (cA vv) (cB vv)))) := hide (by rw [← flPair]; exact hown)
        have HG2 := hide ((HG1.out.alloc _).grown hgr (fun i e l => absurd (HW1.out.lt i e).1 (by omega)))
        clear hown hgr HW1 HG1 y0 y1 K10
        go_wp2
        go_roundw
        case rel => exact ⟨k + 1, by omega, by go_num, HW2, HG2⟩
        case measure => simp [intOf]; omega
    · obtain rfl : n = k := by omega
      have hc : ¬ (n : Int) < (n : Int) := by omega
      obtain ⟨cv, capv, ev, ov⟩ := flPairs HW.out
      subst ev
      have V5 := hide (show PairE wi cv n vv from ov)
      have X5 := hide (X3.out.keep HG.out)
      have T5 := hide (T3.out.keep HG.out)
      have G5 := hide (G3.out.trans HG.out)
      clear ov HW HG X3 T3 G3
      have x0 := X5.out.c0
      have x1 := X5.out.c1
      go_wp2_with fail
      refine (lin_el cv n capv vv x x.v.1 x.v.2 rfl rfl _ V5 hn1 (by omega)).mono ?_
      rintro e W6 ⟨rfl, kk⟩
      rw [HLG.out x]
      have kB := hide (kk.alloc (.cells #[.int .i64 (El.pl co x n).v.1, .int .i64 (El.pl co x n).v.2] 31))
      have Y6 := hide (ElB.new W6 (El.pl co x n))
      have V6 := hide (V5.out.keep kB.out)
      have X6 := hide (X5.out.keep kB.out)
      have T6 := hide (T5.out.keep kB.out)
      have G6 := hide (G5.out.trans kB.out)
      clear kk kB V5 X5 T5 G5 x0 x1
      have x0 := X6.out.c0
      have x1 := X6.out.c1
      go_wp2_with fail
      generalize hE : W6.alloc (.cells #[.int .i64 (El.pl co x n).v.1, .int .i64 (El.pl co x n).v.2] 31) = W6' at Y6 V6 X6 T6 G6 x0 x1 ⊢
      have l6 : W6.heap.size < W6'.heap.size := Y6.out.lt
      clear hE
      refine (polyA_el ct n capt co x x.v.1 x.v.2 rfl rfl _ T6 (by omega)).mono ?_
      rintro e W7 ⟨rfl, kk⟩
      have kB := hide (kk.alloc (.cells #[.int .i64 (El.pl co x n).v.1, .int .i64 (El.pl co x n).v.2] 31))
      have Z7 := hide (ElB.new W7 (El.pl co x n))
      have Y7 := hide (Y6.out.keep kB.out)
      have V7 := hide (V6.out.keep kB.out)
      have X7 := hide (X6.out.keep kB.out)
      have T7 := hide (T6.out.keep kB.out)
      have G7 := hide (G6.out.trans kB.out)
      clear kk kB V6 X6 T6 G6 Y6 x0 x1
      have x0 := X7.out.c0
      have x1 := X7.out.c1
      go_wp2_with fail
      generalize hE : W7.alloc (.cells #[.int .i64 (El.pl co x n).v.1, .int .i64 (El.pl co x n).v.2] 31) = W7' at Z7 Y7 V7 X7 T7 G7 x0 x1 ⊢
      clear hE
      refine (sPolyA_el ct n capt co x x.v.1 x.v.2 rfl rfl _ T7 (by omega)).mono ?_
      rintro e W8 ⟨rfl, kk⟩
      have kB := hide (kk.alloc (.cells #[.int .i64 (El.pl co x n).v.1, .int .i64 (El.pl co x n).v.2] 31))
      have S8 := hide (ElB.new W8 (El.pl co x n))
      have Z8 := hide (Z7.out.keep kB.out)
      have Y8 := hide (Y7.out.keep kB.out)
      have V8 := hide (V7.out.keep kB.out)
      have X8 := hide (X7.out.keep kB.out)
      have G8 := hide (G7.out.trans kB.out)
      clear kk kB V7 X7 T7 G7 Y7 Z7 x0 x1
      go_wp2_with fail
      generalize hE : W8.alloc (.cells #[.int .i64 (El.pl co x n).v.1, .int .i64 (El.pl co x n).v.2] 31) = W8' at S8 Z8 Y8 V8 X8 G8 ⊢
      clear hE
      refine (at_pl a1 len1 cap1 1 n _ (HB1.out.below G8.out.toBelow) hl1 (by omega) (by omega) (by omega)).mono ?_
      rintro e W9 ⟨k, rfl, hkn, k9⟩
      have S9 := hide (S8.out.keep k9)
      have Z9 := hide (Z8.out.keep k9)
      have Y9 := hide (Y8.out.keep k9)
      have V9 := hide (V8.out.keep k9)
      have X9 := hide (X8.out.keep k9)
      have G9 := hide (G8.out.trans k9)
      clear k9 S8 Z8 Y8 V8 X8 G8
      go_wp2_with fail
      refine (lin_el cv n capv vv (El.nb k) (k : Int) 0 (nb_v (by omega)).symm (nb_w k).symm _ V9 hn1 (by omega)).mono ?_
      rintro e W10 ⟨rfl, kk⟩
      rw [HLG.out (El.nb k), HVV.out k]
      have kB := hide (kk.alloc (.cells #[.int .i64 (vv k).v.1, .int .i64 (vv k).v.2] 31))
      have U10 := hide (ElB.new W10 (vv k))
      have S10 := hide (S9.out.keep kB.out)
      have Z10 := hide (Z9.out.keep kB.out)
      have Y10 := hide (Y9.out.keep kB.out)
      have V10 := hide (V9.out.keep kB.out)
      have X10 := hide (X9.out.keep kB.out)
      have G10 := hide (G9.out.trans kB.out)
      clear kk kB S9 Z9 Y9 V9 X9 G9
      have x0 := X10.out.c0
      have x1 := X10.out.c1
      go_wp2_with fail
      generalize hE : W10.alloc (.cells #[.int .i64 (vv k).v.1, .int .i64 (vv k).v.2] 31) = W10' at U10 S10 Z10 Y10 V10 X10 G10 x0 x1 ⊢
      clear hE
      refine (sLin_el cv n capv vv x x.v.1 x.v.2 rfl rfl _ V10 hn1 (by omega)).mono ?_
      rintro e W11 ⟨rfl, kk⟩
      rw [HLG.out x]
      have kB := hide (kk.alloc (.cells #[.int .i64 (El.pl co x n).v.1, .int .i64 (El.pl co x n).v.2] 31))
      have O11 := hide (ElB.new W11 (El.pl co x n))
      have U11 := hide (U10.out.keep kB.out)
      have S11 := hide (S10.out.keep kB.out)
      have Z11 := hide (Z10.out.keep kB.out)
      have Y11 := hide (Y10.out.keep kB.out)
      have V11 := hide (V10.out.keep kB.out)
      have G11 := hide (G10.out.trans kB.out)
      clear kk kB U10 S10 Z10 Y10 V10 X10 G10 x0 x1
      go_upto_region 20 with fail
      generalize hE : W11.alloc (.cells #[.int .i64 (El.pl co x n).v.1, .int .i64 (El.pl co x n).v.2] 31) = WE at O11 U11 S11 Z11 Y11 V11 G11 ⊢
      clear hE
      have hk1 : (k : Int) < (n : Int) := by omega
      have hk0 : (0 : Int) ≤ (k : Int) := by omega
      obtain ⟨vb, vo, ev, hvb, _, _⟩ := PairE.at_ V11.out hkn
      subst ev
      have v0 := PairE.c0 V11.out hkn
      have v1 := PairE.c1 V11.out hkn
      have y0 := Y11.out.c0
      have y1 := Y11.out.c1
      have z0 := Z11.out.c0
      have z1 := Z11.out.c1
      have s0 := S11.out.c0
      have s1 := S11.out.c1
      have u0 := U11.out.c0
      have u1 := U11.out.c1
      have o0 := O11.out.c0
      have o1 := O11.out.c1
      have KW := hide ((Chg.refl nob WE).drew1)
      have SA := hide (fun (WW : World) (kW : Chg nob WE WW) => (show (WW.cell? ⟨W6.heap.size, 0, none⟩ = some (.int .i64 (El.pl co x n).v.1) ∧ WW.cell? ⟨W6.heap.size, 1, none⟩ = some (.int .i64 (El.pl co x n).v.2) ∧ WW.cell? ⟨W7.heap.size, 0, none⟩ = some (.int .i64 (El.pl co x n).v.1) ∧ WW.cell? ⟨W7.heap.size, 1, none⟩ = some (.int .i64 (El.pl co x n).v.2) ∧ WW.cell? ⟨W8.heap.size, 0, none⟩ = some (.int .i64 (El.pl co x n).v.1) ∧ WW.cell? ⟨W8.heap.size, 1, none⟩ = some (.int .i64 (El.pl co x n).v.2) ∧ WW.cell? ⟨W10.heap.size, 0, none⟩ = some (.int .i64 (vv k).v.1) ∧ WW.cell? ⟨W10.heap.size, 1, none⟩ = some (.int .i64 (vv k).v.2) ∧ WW.cell? ⟨W11.heap.size, 0, none⟩ = some (.int .i64 (El.pl co x n).v.1) ∧ WW.cell? ⟨W11.heap.size, 1, none⟩ = some (.int .i64 (El.pl co x n).v.2) ∧ WW.cell? ⟨vb, vo + k * 2, none⟩ = some (.int .i64 (vv k).v.1) ∧ WW.cell? ⟨vb, vo + k * 2 + 1, none⟩ = some (.int .i64 (vv k).v.2)) from ⟨kW.see y0, kW.see y1, kW.see z0, kW.see z1, kW.see s0, kW.see s1, kW.see u0, kW.see u1, kW.see o0, kW.see o1, kW.see v0, kW.see v1⟩))
      refine wp_region_held_drew (S := fun w' => w'.cell? ⟨W6.heap.size, 0, none⟩ = some (.int .i64 (El.pl co x n).v.1) ∧ w'.cell? ⟨W6.heap.size, 1, none⟩ = some (.int .i64 (El.pl co x n).v.2) ∧ w'.cell? ⟨W7.heap.size, 0, none⟩ = some (.int .i64 (El.pl co x n).v.1) ∧ w'.cell? ⟨W7.heap.size, 1, none⟩ = some (.int .i64 (El.pl co x n).v.2) ∧ w'.cell? ⟨W8.heap.size, 0, none⟩ = some (.int .i64 (El.pl co x n).v.1) ∧ w'.cell? ⟨W8.heap.size, 1, none⟩ = some (.int .i64 (El.pl co x n).v.2) ∧ w'.cell? ⟨W10.heap.size, 0, none⟩ = some (.int .i64 (vv k).v.1) ∧ w'.cell? ⟨W10.heap.size, 1, none⟩ = some (.int .i64 (vv k).v.2) ∧ w'.cell? ⟨W11.heap.size, 0, none⟩ = some (.int .i64 (El.pl co x n).v.1) ∧ w'.cell? ⟨W11.heap.size, 1, none⟩ = some (.int .i64 (El.pl co x n).v.2) ∧ w'.cell? ⟨vb, vo + k * 2, none⟩ = some (.int .i64 (vv k).v.1) ∧ w'.cell? ⟨vb, vo + k * 2 + 1, none⟩ = some (.int .i64 (vv k).v.2)) (by kernel_rfl) ⟨y0, y1, z0, z1, s0, s1, u0, u1, o0, o1, v0, v1⟩ (fun hHeld => ?_)
      refine wpAnyH_take (i := 0) (v := ?_) rfl (by kernel_rfl) (by kernel_rfl) (by kernel_rfl) (fun _ _ _ h => h) (Or.inl ⟨by rfl, ?_⟩) (by assumption) ?_
      rotate_left 1
      · (intro w' hSw; (try dsimp only at hSw); go_simp; try with_reducible rfl)
      try simp only [Act.put, List.setIfInBounds_toArray, List.set_cons_zero, List.set_cons_succ, List.getElem_toArray, List.getElem_cons_zero, List.getElem_cons_succ]
      refine wpAnyH_take (i := 1) (v := ?_) rfl (by kernel_rfl) (by kernel_rfl) (by kernel_rfl) (fun _ _ _ h => h) (Or.inl ⟨by rfl, ?_⟩) (by assumption) ?_
      rotate_left 1
      · (intro w' hSw; (try dsimp only at hSw); go_simp; try with_reducible rfl)
      try simp only [Act.put, List.setIfInBounds_toArray, List.set_cons_zero, List.set_cons_succ, List.getElem_toArray, List.getElem_cons_zero, List.getElem_cons_succ]
      refine wpAnyH_take (i := 2) (v := ?_) rfl (by kernel_rfl) (by kernel_rfl) (by kernel_rfl) (fun _ _ _ h => h) (Or.inl ⟨by rfl, ?_⟩) (by assumption) ?_
      rotate_left 1
      · (intro w' hSw; (try dsimp only at hSw); go_simp; try with_reducible rfl)
      try simp only [Act.put, List.setIfInBounds_toArray, List.set_cons_zero, List.set_cons_succ, List.getElem_toArray, List.getElem_cons_zero, List.getElem_cons_succ]
      refine wpAnyH_take (i := 3) (v := ?_) rfl (by kernel_rfl) (by kernel_rfl) (by kernel_rfl) (fun _ _ _ h => h) (Or.inl ⟨by rfl, ?_⟩) (by assumption) ?_
      rotate_left 1
      · (intro w' hSw; (try dsimp only at hSw); go_simp; try with_reducible rfl)
      try simp only [Act.put, List.setIfInBounds_toArray, List.set_cons_zero, List.set_cons_succ, List.getElem_toArray, List.getElem_cons_zero, List.getElem_cons_succ]
      refine wpAnyH_take (i := 4) (v := ?_) rfl (by kernel_rfl) (by kernel_rfl) (by kernel_rfl) (fun _ _ _ h => h) (Or.inl ⟨by rfl, ?_⟩) (by assumption) ?_
      rotate_left 1
      · (intro w' hSw; (try dsimp only at hSw); go_simp; try with_reducible rfl)
      try simp only [Act.put, List.setIfInBounds_toArray, List.set_cons_zero, List.set_cons_succ, List.getElem_toArray, List.getElem_cons_zero, List.getElem_cons_succ]
      refine wpAnyH_take (i := 5) (v := ?_) rfl (by kernel_rfl) (by kernel_rfl) (by kernel_rfl) (fun _ _ _ h => h) (Or.inl ⟨by rfl, ?_⟩) (by assumption) ?_
      rotate_left 1
      · (intro w' hSw; (try dsimp only at hSw); go_simp; try with_reducible rfl)
      try simp only [Act.put, List.setIfInBounds_toArray, List.set_cons_zero, List.set_cons_succ, List.getElem_toArray, List.getElem_cons_zero, List.getElem_cons_succ]
      refine wpAnyH_take (i := 6) (v := ?_) rfl (by kernel_rfl) (by kernel_rfl) (by kernel_rfl) (fun _ _ _ h => h) (Or.inl ⟨by rfl, ?_⟩) (by assumption) ?_
      rotate_left 1
      · (intro w' hSw; (try dsimp only at hSw); go_simp; try with_reducible rfl)
      try simp only [Act.put, List.setIfInBounds_toArray, List.set_cons_zero, List.set_cons_succ, List.getElem_toArray, List.getElem_cons_zero, List.getElem_cons_succ]
      refine wpAnyH_take (i := 7) (v := ?_) rfl (by kernel_rfl) (by kernel_rfl) (by kernel_rfl) (fun _ _ _ h => h) (Or.inl ⟨by rfl, ?_⟩) (by assumption) ?_
      rotate_left 1
      · (intro w' hSw; (try dsimp only at hSw); go_simp; try with_reducible rfl)
      try simp only [Act.put, List.setIfInBounds_toArray, List.set_cons_zero, List.set_cons_succ, List.getElem_toArray, List.getElem_cons_zero, List.getElem_cons_succ]
      refine wpAnyH_take (i := 8) (v := ?_) rfl (by kernel_rfl) (by kernel_rfl) (by kernel_rfl) (fun _ _ _ h => h) (Or.inl ⟨by rfl, ?_⟩) (by assumption) ?_
      rotate_left 1
      · (intro w' hSw; (try dsimp only at hSw); go_simp; try with_reducible rfl)
      try simp only [Act.put, List.setIfInBounds_toArray, List.set_cons_zero, List.set_cons_succ, List.getElem_toArray, List.getElem_cons_zero, List.getElem_cons_succ]
      refine wpAnyH_take (i := 9) (v := ?_) rfl (by kernel_rfl) (by kernel_rfl) (by kernel_rfl) (fun _ _ _ h => h) (Or.inl ⟨by rfl, ?_⟩) (by assumption) ?_
      rotate_left 1
      · (intro w' hSw; (try dsimp only at hSw); go_simp; try with_reducible rfl)
      try simp only [Act.put, List.setIfInBounds_toArray, List.set_cons_zero, List.set_cons_succ, List.getElem_toArray, List.getElem_cons_zero, List.getElem_cons_succ]
      refine wpAnyH_take (i := 10) (v := ?_) rfl (by kernel_rfl) (by kernel_rfl) (by kernel_rfl) (fun _ _ _ h => h) (Or.inl ⟨by rfl, ?_⟩) (by assumption) ?_
      rotate_left 1
      · (intro w' hSw; (try dsimp only at hSw); go_simp; try with_reducible rfl)
      try simp only [Act.put, List.setIfInBounds_toArray, List.set_cons_zero, List.set_cons_succ, List.getElem_toArray, List.getElem_cons_zero, List.getElem_cons_succ]
      refine wpAnyH_take (i := 11) (v := ?_) rfl (by kernel_rfl) (by kernel_rfl) (by kernel_rfl) (fun _ _ _ h => h) (Or.inl ⟨by rfl, ?_⟩) (by assumption) ?_
      rotate_left 1
      · (intro w' hSw; (try dsimp only at hSw); go_simp; try with_reducible rfl)
      try simp only [Act.put, List.setIfInBounds_toArray, List.set_cons_zero, List.set_cons_succ, List.getElem_toArray, List.getElem_cons_zero, List.getElem_cons_succ]
      refine wpAnyH_take (i := 12) (v := ?_) rfl (by kernel_rfl) (by kernel_rfl) (by kernel_rfl) (fun _ _ _ h => h) (Or.inl ⟨by rfl, ?_⟩) (by assumption) ?_
      rotate_left 1
      · (intro w' hSw; (try dsimp only at hSw); go_simp; try with_reducible rfl)
      try simp only [Act.put, List.setIfInBounds_toArray, List.set_cons_zero, List.set_cons_succ, List.getElem_toArray, List.getElem_cons_zero, List.getElem_cons_succ]
      refine wpAnyH_take (i := 13) (v := ?_) rfl (by kernel_rfl) (by kernel_rfl) (by kernel_rfl) (fun _ _ _ h => h) (Or.inl ⟨by rfl, ?_⟩) (by assumption) ?_
      rotate_left 1
      · (intro w' hSw; (try dsimp only at hSw); go_simp; try with_reducible rfl)
      try simp only [Act.put, List.setIfInBounds_toArray, List.set_cons_zero, List.set_cons_succ, List.getElem_toArray, List.getElem_cons_zero, List.getElem_cons_succ]
      refine wpAnyH_take (i := 14) (v := ?_) rfl (by kernel_rfl) (by kernel_rfl) (by kernel_rfl) (fun _ _ _ h => h) (Or.inl ⟨by rfl, ?_⟩) (by assumption) ?_
      rotate_left 1
      · (intro w' hSw; (try dsimp only at hSw); go_simp; try with_reducible rfl)
      try simp only [Act.put, List.setIfInBounds_toArray, List.set_cons_zero, List.set_cons_succ, List.getElem_toArray, List.getElem_cons_zero, List.getElem_cons_succ]
      refine wpAnyH_take (i := 15) (v := ?_) rfl (by kernel_rfl) (by kernel_rfl) (by kernel_rfl) (fun _ _ _ h => h) (Or.inl ⟨by rfl, ?_⟩) (by assumption) ?_
      rotate_left 1
      · (intro w' hSw; (try dsimp only at hSw); go_simp; try with_reducible rfl)
      try simp only [Act.put, List.setIfInBounds_toArray, List.set_cons_zero, List.set_cons_succ, List.getElem_toArray, List.getElem_cons_zero, List.getElem_cons_succ]
      refine wpAnyH_take (i := 16) (v := ?_) rfl (by kernel_rfl) (by kernel_rfl) (by kernel_rfl) (fun _ _ _ h => h) (Or.inl ⟨by rfl, ?_⟩) (by assumption) ?_
      rotate_left 1
      · (intro w' hSw; (try dsimp only at hSw); go_simp; try with_reducible rfl)
      try simp only [Act.put, List.setIfInBounds_toArray, List.set_cons_zero, List.set_cons_succ, List.getElem_toArray, List.getElem_cons_zero, List.getElem_cons_succ]
      refine wpAnyH_take (i := 17) (v := ?_) rfl (by kernel_rfl) (by kernel_rfl) (by kernel_rfl) (fun _ _ _ h => h) (Or.inl ⟨by rfl, ?_⟩) (by assumption) ?_
      rotate_left 1
      · (intro w' hSw; (try dsimp only at hSw); go_simp; try with_reducible rfl)
      try simp only [Act.put, List.setIfInBounds_toArray, List.set_cons_zero, List.set_cons_succ, List.getElem_toArray, List.getElem_cons_zero, List.getElem_cons_succ]
      refine wpAnyH_take (i := 18) (v := ?_) rfl (by kernel_rfl) (by kernel_rfl) (by kernel_rfl) (fun _ _ _ h => h) (Or.inl ⟨by rfl, ?_⟩) (by assumption) ?_
      rotate_left 1
      · (intro w' hSw; (try dsimp only at hSw); go_simp; try with_reducible rfl)
      try simp only [Act.put, List.setIfInBounds_toArray, List.set_cons_zero, List.set_cons_succ, List.getElem_toArray, List.getElem_cons_zero, List.getElem_cons_succ]
      refine wpAnyH_take (i := 19) (v := ?_) rfl (by kernel_rfl) (by kernel_rfl) (by kernel_rfl) (fun _ _ _ h => h) (Or.inl ⟨by rfl, ?_⟩) (by assumption) ?_
      rotate_left 1
      · (intro w' hSw; (try dsimp only at hSw); go_simp; try with_reducible rfl)
      try simp only [Act.put, List.setIfInBounds_toArray, List.set_cons_zero, List.set_cons_succ, List.getElem_toArray, List.getElem_cons_zero, List.getElem_cons_succ]
      refine wpAnyH_take (i := 20) (v := ?_) rfl (by kernel_rfl) (by kernel_rfl) (by kernel_rfl) (fun _ _ _ h => h) (Or.inl ⟨by rfl, ?_⟩) (by assumption) ?_
      rotate_left 1
      · (intro w' hSw; (try dsimp only at hSw); go_simp; try with_reducible rfl)
      try simp only [Act.put, List.setIfInBounds_toArray, List.set_cons_zero, List.set_cons_succ, List.getElem_toArray, List.getElem_cons_zero, List.getElem_cons_succ]
      refine wpAnyH_take (i := 21) (v := ?_) rfl (by kernel_rfl) (by kernel_rfl) (by kernel_rfl) (fun _ _ _ h => h) (Or.inl ⟨by rfl, ?_⟩) (by assumption) ?_
      rotate_left 1
      · (intro w' hSw; (try dsimp only at hSw); go_simp; try with_reducible rfl)
      try simp only [Act.put, List.setIfInBounds_toArray, List.set_cons_zero, List.set_cons_succ, List.getElem_toArray, List.getElem_cons_zero, List.getElem_cons_succ]
      refine wpAnyH_take (i := 22) (v := ?_) rfl (by kernel_rfl) (by kernel_rfl) (by kernel_rfl) (fun _ _ _ h => h) (Or.inl ⟨by rfl, ?_⟩) (by assumption) ?_
      rotate_left 1
      · (intro w' hSw; (try dsimp only at hSw); go_simp; try with_reducible rfl)
      try simp only [Act.put, List.setIfInBounds_toArray, List.set_cons_zero, List.set_cons_succ, List.getElem_toArray, List.getElem_cons_zero, List.getElem_cons_succ]
      refine wpAnyH_take (i := 23) (v := ?_) rfl (by kernel_rfl) (by kernel_rfl) (by kernel_rfl) (fun _ _ _ h => h) (Or.inl ⟨by rfl, ?_⟩) (by assumption) ?_
      rotate_left 1
      · (intro w' hSw; (try dsimp only at hSw); go_simp; try with_reducible rfl)
      try simp only [Act.put, List.setIfInBounds_toArray, List.set_cons_zero, List.set_cons_succ, List.getElem_toArray, List.getElem_cons_zero, List.getElem_cons_succ]
      refine wpAnyH_take (i := 24) (v := ?_) rfl (by kernel_rfl) (by kernel_rfl) (by kernel_rfl) (fun _ _ _ h => h) (Or.inl ⟨by rfl, ?_⟩) (by assumption) ?_
      rotate_left 1
      · (intro w' hSw; (try dsimp only at hSw); go_simp; try with_reducible rfl)
      try simp only [Act.put, List.setIfInBounds_toArray, List.set_cons_zero, List.set_cons_succ, List.getElem_toArray, List.getElem_cons_zero, List.getElem_cons_succ]
      refine wpAnyH_take (i := 25) (v := ?_) rfl (by kernel_rfl) (by kernel_rfl) (by kernel_rfl) (fun _ _ _ h => h) (Or.inl ⟨by rfl, ?_⟩) (by assumption) ?_
      rotate_left 1
      · (intro w' hSw; (try dsimp only at hSw); go_simp; try with_reducible rfl)
      try simp only [Act.put, List.setIfInBounds_toArray, List.set_cons_zero, List.set_cons_succ, List.getElem_toArray, List.getElem_cons_zero, List.getElem_cons_succ]
      refine wpAnyH_take (i := 26) (v := ?_) rfl (by kernel_rfl) (by kernel_rfl) (by kernel_rfl) (fun _ _ _ h => h) (Or.inl ⟨by rfl, ?_⟩) (by assumption) ?_
      rotate_left 1
      · (intro w' hSw; (try dsimp only at hSw); go_simp; try with_reducible rfl)
      try simp only [Act.put, List.setIfInBounds_toArray, List.set_cons_zero, List.set_cons_succ, List.getElem_toArray, List.getElem_cons_zero, List.getElem_cons_succ]
      refine wpAnyH_take (i := 27) (v := ?_) rfl (by kernel_rfl) (by kernel_rfl) (by kernel_rfl) (fun _ _ _ h => h) (Or.inl ⟨by rfl, ?_⟩) (by assumption) ?_
      rotate_left 1
      · (intro w' hSw; (try dsimp only at hSw); go_simp; try with_reducible rfl)
      try simp only [Act.put, List.setIfInBounds_toArray, List.set_cons_zero, List.set_cons_succ, List.getElem_toArray, List.getElem_cons_zero, List.getElem_cons_succ]
      refine wpAnyH_take (i := 28) (v := ?_) rfl (by kernel_rfl) (by kernel_rfl) (by kernel_rfl) (fun _ _ _ h => h) (Or.inl ⟨by rfl, ?_⟩) (by assumption) ?_
      rotate_left 1
      · (intro w' hSw; (try dsimp only at hSw); go_simp; try with_reducible rfl)
      try simp only [Act.put, List.setIfInBounds_toArray, List.set_cons_zero, List.set_cons_succ, List.getElem_toArray, List.getElem_cons_zero, List.getElem_cons_succ]
      refine wpAnyH_take (i := 29) (v := ?_) rfl (by kernel_rfl) (by kernel_rfl) (by kernel_rfl) (fun _ _ _ h => h) (Or.inl ⟨by rfl, ?_⟩) (by assumption) ?_
      rotate_left 1
      · (intro w' hSw; (try dsimp only at hSw); go_simp; try with_reducible rfl)
      try simp only [Act.put, List.setIfInBounds_toArray, List.set_cons_zero, List.set_cons_succ, List.getElem_toArray, List.getElem_cons_zero, List.getElem_cons_succ]
      refine wpAnyH_take (i := 30) (v := ?_) rfl (by kernel_rfl) (by kernel_rfl) (by kernel_rfl) (fun _ _ _ h => h) (Or.inl ⟨by rfl, ?_⟩) (by assumption) ?_
      rotate_left 1
      · (intro w' hSw; (try dsimp only at hSw); go_simp; try with_reducible rfl)
      try simp only [Act.put, List.setIfInBounds_toArray, List.set_cons_zero, List.set_cons_succ, List.getElem_toArray, List.getElem_cons_zero, List.getElem_cons_succ]
      refine wpAnyH_take (i := 31) (v := ?_) rfl (by kernel_rfl) (by kernel_rfl) (by kernel_rfl) (fun _ _ _ h => h) (Or.inl ⟨by rfl, ?_⟩) (by assumption) ?_
      rotate_left 1
      · (intro w' hSw; (try dsimp only at hSw); go_simp; try with_reducible rfl)
      try simp only [Act.put, List.setIfInBounds_toArray, List.set_cons_zero, List.set_cons_succ, List.getElem_toArray, List.getElem_cons_zero, List.getElem_cons_succ]
      refine wpAnyH_take (i := 32) (v := ?_) rfl (by kernel_rfl) (by kernel_rfl) (by kernel_rfl) (fun _ _ _ h => h) (Or.inl ⟨by rfl, ?_⟩) (by assumption) ?_
      rotate_left 1
      · (intro w' hSw; (try dsimp only at hSw); go_simp; try with_reducible rfl)
      try simp only [Act.put, List.setIfInBounds_toArray, List.set_cons_zero, List.set_cons_succ, List.getElem_toArray, List.getElem_cons_zero, List.getElem_cons_succ]
      refine wpAnyH_take (i := 33) (v := ?_) rfl (by kernel_rfl) (by kernel_rfl) (by kernel_rfl) (fun _ _ _ h => h) (Or.inl ⟨by rfl, ?_⟩) (by assumption) ?_
      rotate_left 1
      · (intro w' hSw; (try dsimp only at hSw); go_simp; try with_reducible rfl)
      try simp only [Act.put, List.setIfInBounds_toArray, List.set_cons_zero, List.set_cons_succ, List.getElem_toArray, List.getElem_cons_zero, List.getElem_cons_succ]
      refine wpAnyH_done (by kernel_rfl) ?_ _
      go_wp2
      go_ret
      exact ⟨rfl, (G11.out.trans KW.out).toBelow⟩

set_option maxRecDepth 100000 in
theorem lifted (os : Os) (started : os.Started) (H : Type) (enc : TypeId × Value → H) :
    ReturnsInHanded {} Try.checked os 6 .any (Rows.fnLineSpec.pre6 enc Try.prog Try.f6 Rows.fnLineRow.domain false) (Rows.fnLineSpec.post enc Try.prog Try.f6 false true false false) := by
  refine returnsInHanded_of_change (C := Try.checked) own started (by kernel_rfl) Try.func6
    (ChangeSpec.witness6 (enc := enc) (C := Try.checked) false ⟨#[], #[.slice none 0 0, .slice none 0 0], []⟩ 8 (by kernel_rfl) (by kernel_rfl) (by kernel_rfl) (by kernel_rfl)) ?_
  intro W base args ds gs before hval0 hW hcnd _
  have hval : ∀ (j : Nat) t v, Try.f6.params[j]? = some t → args[j]? = some v → Value.okWide Try.prog W .any base t v := hval0
  have hW' := hW
  obtain ⟨p, q, hA0, hV, rfl, hfz, hnd⟩ := hW
  have hA : DataW.TrodAll enc Try.prog W 0 (fun _ => true) true Try.f6.params.toList args.toList ds p := hA0
  rw [Try.params6] at hA hval
  obtain ⟨v0, vs0, d0, ds0, p0, q0, hargs, rfl, rfl, h0, r0⟩ := trodAll_cons hA
  obtain ⟨v1, vs1, d1, ds1, p1, q1, rfl, rfl, rfl, h1, r1⟩ := trodAll_cons r0
  obtain ⟨rfl, rfl, rfl⟩ := trodAll_nil r1
  obtain rfl : args = #[v0, v1] := by cases args; simp_all
  obtain ⟨rfl, rfl⟩ := trodVars_none hV
  obtain ⟨a0, len0, cap0, rfl⟩ := okWide_slice Try.underlying22 (hval 0 22 v0 rfl rfl)
  have k0 := h0
  have lt0 : ∀ x ∈ p0, x.block < W.heap.size := by obtain ⟨m, hm⟩ := k0; exact DataW.trod_lt m _ _ _ hm
  obtain ⟨z0, w0⟩ : ∃ zs, IsRow .u8 W a0 len0 cap0 zs := by
    obtain ⟨fuel, hf⟩ := h0
    rcases open_ints Try.underlying22 Try.underlying5 (by kernel_rfl) hf with ⟨hcs, _⟩ | ⟨x, l, c, zs, hcs, _, hl, hm, hz, _, hcell, hwz⟩
    · simp [Value.cells] at hcs
      obtain ⟨rfl, rfl, rfl⟩ := hcs
      exact ⟨[], .inl ⟨rfl, rfl, rfl, rfl⟩⟩
    · simp [Value.cells] at hcs
      obtain ⟨rfl, rfl, rfl⟩ := hcs
      exact ⟨zs, .inr ⟨_, rfl, hl, hm, by simpa using hz, hcell, hwz⟩⟩
  obtain ⟨a1, len1, cap1, rfl⟩ := okWide_slice Try.underlying22 (hval 1 22 v1 rfl rfl)
  have k1 := h1
  have lt1 : ∀ x ∈ p1, x.block < W.heap.size := by obtain ⟨m, hm⟩ := k1; exact DataW.trod_lt m _ _ _ hm
  obtain ⟨z1, w1⟩ : ∃ zs, IsRow .u8 W a1 len1 cap1 zs := by
    obtain ⟨fuel, hf⟩ := h1
    rcases open_ints Try.underlying22 Try.underlying5 (by kernel_rfl) hf with ⟨hcs, _⟩ | ⟨x, l, c, zs, hcs, _, hl, hm, hz, _, hcell, hwz⟩
    · simp [Value.cells] at hcs
      obtain ⟨rfl, rfl, rfl⟩ := hcs
      exact ⟨[], .inl ⟨rfl, rfl, rfl, rfl⟩⟩
    · simp [Value.cells] at hcs
      obtain ⟨rfl, rfl, rfl⟩ := hcs
      exact ⟨zs, .inr ⟨_, rfl, hl, hm, by simpa using hz, hcell, hwz⟩⟩
  clear hA0 hval0
  refine (walk a0 len0 cap0 z0 a1 len1 cap1 z1 W w0 w1).mono fun e W' ⟨he, bel⟩ => ?_
  subst he
  exact ⟨_, rfl, _, _, _, [], _, [], hW', trodAll_mk1 (shut_bool Try.underlying4 _), (trodAll_cons_mk (Below.trod laidOut (by kernel_rfl) (of_decide_eq_true (by kernel_rfl)) k0 bel lt0) (trodAll_cons_mk (Below.trod laidOut (by kernel_rfl) (of_decide_eq_true (by kernel_rfl)) k1 bel lt1) trodAll_mk0)), rfl, bel.frame _, fun h => by cases h⟩

theorem over : Rows.fnLineRow.holds Try.pinned (OpenSpec.ofChange Rows.fnLineSpec) :=
  OpenClaim.holds_of_wide 6 Try.f6 rfl rfl rfl rfl rfl rfl rfl ⟨rfl, rfl, rfl, rfl, rfl⟩ rfl rfl rfl rfl rfl (by kernel_rfl) Try.func6 (by kernel_rfl)
    (of_decide_eq_true (by kernel_rfl)) (by unfold Func.isWrapper; first | (rw [if_pos (by decide +kernel)]; kernel_rfl) | (rw [if_neg (by decide +kernel)]; exact ⟨rfl, rfl⟩))
    (fun os started H enc _ => lifted os started H enc)

end Go.Proofs.Ytmcdkmohjmcjbac.fnLine
namespace Go.Proofs.Ytmcdkmohjmcjbac
theorem FnLine_holds : Rows.FnLineSaid := fnLine.over
#print axioms FnLine_holds
end Go.Proofs.Ytmcdkmohjmcjbac
