/- For all codes (slices of bytes): the law FnExtBytes holds: elements are read back from their bytes, bytes that are read are those of what was read; a product of lists is the sum of products. No condition. -/
import Derived.Test.YtencdbocifpekaaRows
import Derived.WalkKit
import Derived.ProofKit
import Derived.OpenShut
import Derived.Test.YtencdbocifpekaaEBx
import Derived.ShutString
import Derived.ChangeOld
import Derived.Below
namespace Go.Proofs.Ytencdbocifpekaa.fnExtBytes
open Go.ChangeShapes Go.WideShapes Go.ChangeAt Go.RowKit
open Go.ChangeMaps (open_string shut_string)
set_option linter.unusedVariables false

theorem own : ownKnob Try.prog.godebug = none := by kernel_rfl
theorem laidOut : laidOutB Try.prog = true := by kernel_rfl

/-- WHAT THE WALK IS TOLD OF A SLICE OF INTEGERS THAT CAME IN: it is nil; or it leads to a row of 'cap' cells, the numbers 'zs' (the first 'len' are its elements, the rest its spare room), each fitting its kind. -/
def IsRow (k : IntKind) (w : World) (a : Option Addr) (len cap : Nat) (zs : List Int) : Prop :=
  (a = none ∧ len = 0 ∧ cap = 0 ∧ zs = []) ∨
  ∃ x, a = some x ∧ len ≤ cap ∧ cap ≤ maxLen ∧ zs.length = cap ∧ (∀ i, i < zs.length → w.cell? (x.add i) = some (.int k (zs.getD i 0))) ∧ ∀ n ∈ zs, (Lit.int k n).wf = true

set_option maxRecDepth 100000 in
set_option maxHeartbeats 4000000 in
theorem walk (a0 : Option Addr) (len0 cap0 : Nat) (z0 : List Int) (a1 : Option Addr) (len1 cap1 : Nat) (z1 : List Int) (w : World) (w0 : IsRow .u8 w a0 len0 cap0 z0) (w1 : IsRow .u8 w a1 len1 cap1 z1) :
    Calls Try.prog 8 #[.slice a0 len0 cap0, .slice a1 len1 cap1] w fun e w' => e = .returned (.bool true) ∧ Below w.heap.size w w' := by
  obtain ⟨z, hR1, hzz, hcp, hcq⟩ : ∃ z : Nat → Int, RowV w a1 len1 (bw z) ∧ (∀ j, 0 ≤ z j ∧ z j < 256) ∧ len1 ≤ cap1 ∧ (cap1 : Int) ≤ 9223372036854775807 := by
    rcases w1 with ⟨rfl, rfl, rfl, rfl⟩ | ⟨x, rfl, hl, hm, hz, hc, hw⟩
    · exact ⟨fun _ => 0, fun i hi => by omega, fun j => ⟨Int.le_refl 0, (by decide : (0 : Int) < 256)⟩, Nat.le_refl _, by decide⟩
    · unfold maxLen at hm
      refine ⟨fun i => z1.getD i 0, fun i hi => ?_, fun j => ?_, hl, by omega⟩
      · obtain ⟨b, o, rfl, hc'⟩ := ints_at hc (by omega)
        exact ⟨b, o, rfl, block_lt_of_cell (hc' i (by omega)), hc' i (by omega)⟩
      · have hb := range_u8 hw j
        exact ⟨hb.1, Int.lt_of_le_of_lt hb.2 (by decide)⟩
  have RZ := hide hR1
  have HZ := hide hzz
  clear hR1 hzz
  obtain ⟨hB0, hl0⟩ := bytes_of_row w0
  obtain ⟨hB1, hl1⟩ := bytes_of_row w1
  have HB0 := hide hB0
  have HB1 := hide hB1
  clear w0 w1 hB0 hB1
  by_cases hm : 1048576 < len0
  · have hm' : 1048576 < (len0 : Int) := by omega
    go_enter Try.func8, Try.ntmps8
    go_wp2_with fail
    go_ret
    exact ⟨rfl, Below.refl _ _⟩
  by_cases hn : 1048576 < len1
  · have hm' : ¬ 1048576 < (len0 : Int) := by omega
    have hn' : 1048576 < (len1 : Int) := by omega
    go_enter Try.func8, Try.ntmps8
    go_wp2_with fail
    go_ret
    exact ⟨rfl, Below.refl _ _⟩
  have hm' : ¬ 1048576 < (len0 : Int) := by omega
  have hn' : ¬ 1048576 < (len1 : Int) := by omega
  go_enter Try.func8, Try.ntmps8
  go_wp2_with fail
  refine (at_any a1 len1 cap1 0 6 _ HB1.out hl1 (by omega) (by omega) (by omega) (by omega)).mono ?_
  rintro e W1 ⟨r, rfl, r0, r1, hb⟩
  obtain ⟨n, rfl⟩ := Int.eq_ofNat_of_zero_le r0
  have G1 := hide (Chg.of_below hb)
  have hn5 : n ≤ 5 := by omega
  clear hb r0 r1
  go_wp2_with fail
  refine (extsOf_any a0 len0 cap0 n _ (HB0.out.below G1.out.toBelow) hl0 (by omega)).mono ?_
  rintro e W2 ⟨f, g, c2, q2, rfl, hP, hO, k2⟩
  have P2 := hide hP
  have HO := hide hO
  have G2 := hide (G1.out.trans k2)
  have HBC : Hid (bc f g n = 0) := hide (by simp [bc, hO]; omega)
  clear hP hO k2 G1
  go_wp2_with fail
  refine (extBytes_yes _ n q2 f g _ (extBytes_any c2 n q2 f g _ P2 (by omega)) HBC.out).mono ?_
  rintro e W3 ⟨b3, hb3, rfl, r3, k3⟩
  have R3 := hide r3
  have P3 := hide (P2.out.keep k3)
  have G3 := hide (G2.out.trans k3)
  clear r3 k3 G2 P2 hb3
  go_wp2_with fail
  refine (sExtBytes_any c2 n q2 f g _ P3 (by omega)).mono ?_
  rintro e W4 hs4
  rcases hs4 with ⟨h0, _⟩ | ⟨_, c4, q4, rfl, v4, k4⟩
  · exact absurd HBC.out h0
  have V4 := hide v4
  have R4 := hide (rowIs_keep R3.out k4)
  have P4 := hide (P3.out.keep k4)
  have G4 := hide (G3.out.trans k4)
  clear v4 k4 R3 P3 G3
  go_wp2_with fail
  refine (readExts_yes _ (n * 8) (n * 8) (byt f g) _ (readExts_any (some ⟨b3, 0, none⟩) (n * 8) (n * 8) (byt f g) _ (hide (RowV.of_row R4.out (Nat.le_refl _))) (hide (fun j => ⟨byt_lo _ _ _, byt_hi _ _ _⟩)) (by omega) (Nat.le_refl _) (by omega)) (rc_byt f g n (by omega) HO.out)).mono ?_
  rintro e W5 ⟨b5, hb5, he, r5, k5⟩
  rw [show n * 8 / 8 = n by omega] at he r5
  subst he
  have R5 := hide r5
  have V5 := hide (V4.out.keep k5)
  have S5 := hide (rowIs_keep R4.out k5)
  have P5 := hide (P4.out.keep k5)
  have G5 := hide (G4.out.trans k5)
  clear r5 k5 R4 P4 G4 V4 hb5
  have hv1 := conv_bytes (some ⟨b3, 0, none⟩) (n * 8) (n * 8) (byt f g) W5 (RowV.of_row S5.out (Nat.le_refl _))
  have hv2 := conv_bytes c4 (n * 8) q4 (byt f g) W5 V5.out
  generalize strOfNums ((List.range (n * 8)).map (byt f g)) = S at hv1 hv2
  have hq1 : (((n * 8 : Nat) : Int) == 8 * (n : Int)) = true := by simp; omega
  have hq2 : ((n : Int) * 8 == 8 * (n : Int)) = true := by simp; omega
  go_wp2_with fail
  refine (sameExts_any (some ⟨b5, 0, none⟩) c2 n n n q2 (rf (byt f g)) (rg (byt f g)) f g _ (hide (PairV.of_row R5.out (Nat.le_refl _))) P5 rfl (fun i hi => ⟨rf_byt f g i (okP_all f g n HO.out i hi), rg_byt f g i (okP_all f g n HO.out i hi)⟩) (by omega)).mono ?_
  rintro e W6 ⟨rfl, k6⟩
  have P6 := hide (P5.out.keep k6)
  have G6 := hide (G5.out.trans k6)
  clear k6 hv1 hv2 hq1 hq2 P5 G5 R5 S5 V5
  go_wp2_with fail
  refine (extsOf_any a1 len1 cap1 n _ (HB1.out.below G6.out.toBelow) hl1 (by omega)).mono ?_
  rintro e W7 ⟨f', g', c7, q7, rfl, hP, hO, k7⟩
  have Q7 := hide hP
  have HO' := hide hO
  have P7 := hide (P6.out.keep k7)
  have G7 := hide (G6.out.trans k7)
  clear hP hO k7 P6 G6 HB0 HB1
  go_wp2_with fail
  refine (extDot_ok c2 c7 n q2 q7 f g f' g' _ P7 Q7 (by omega) HO.out HO'.out).mono ?_
  rintro e W8 ⟨rfl, k8⟩
  have P8 := hide (P7.out.keep (k8.alloc (.cells #[.int .i64 (dE f g f' g' n).1, .int .i64 (dE f g f' g' n).2] 37)))
  have Q8 := hide (Q7.out.keep (k8.alloc (.cells #[.int .i64 (dE f g f' g' n).1, .int .i64 (dE f g f' g' n).2] 37)))
  have G8 := hide (G7.out.trans k8)
  clear k8 P7 Q7 G7
  go_wp2_with fail
  refine (sExtDot_ok c2 c7 n q2 q7 f g f' g' _ P8 Q8 (by omega) HO.out HO'.out).mono ?_
  rintro e W9 ⟨rfl, k9⟩
  have E9 : Hid (Elem W9 W8.heap.size (dE f g f' g' n).1 (dE f g f' g' n).2) := hide ((Elem.new W8 _ _ 37).keep k9)
  have P9 := hide (P8.out.keep k9)
  have Q9 := hide (Q8.out.keep k9)
  have G9 := hide ((G8.out.alloc (.cells #[.int .i64 (dE f g f' g' n).1, .int .i64 (dE f g f' g' n).2] 37)).trans k9)
  clear k9 P8 Q8 G8
  go_wp2
  go_loopw [19] (fun i W => ∃ k : Nat, k ≤ n ∧ i = .int .i64 k ∧ Hid (Elem W W9.heap.size (dE f g f' g' n).1 (dE f g f' g' n).2) ∧ Hid (W.rowIs (W9.heap.size + 1) 37 2 (pi2 (dE f g f' g' k).1 (dE f g f' g' k).2)) ∧ Hid (Chg nob W9 W)) (fun i _ => n - (intOf i).toNat)
  case atStart => exact ⟨0, Nat.zero_le _, rfl, hide ((Elem.new W9 _ _ 37).keep ((Chg.refl _ _).alloc _)), hide (by have h := row2_new (W9.alloc (.cells #[.int .i64 (dE f g f' g' n).1, .int .i64 (dE f g f' g' n).2] 37)) (.int .i64 0) (.int .i64 0) 37; simpa [pi2, dE] using h), hide (((Chg.refl _ _).alloc _).alloc _)⟩
  case round =>
    obtain ⟨k, hk, rfl, HE, HS, HC⟩ := hrel
    have hz9 : W9.heap.size + 2 ≤ wr.heap.size := by have := HS.out.lt; omega
    by_cases hlt : k < n
    · have hk0 : (0 : Int) ≤ (k : Int) := by omega
      have hk1 : (k : Int) < (n : Int) := by omega
      obtain ⟨xb, xo, rfl, hxb, hx0, hx1⟩ := (P9.out.keep HC.out) k hlt
      obtain ⟨yb, yo, rfl, hyb, hy0, hy1⟩ := (Q9.out.keep HC.out) k hlt
      have ea := okP_all f g n HO.out k hlt
      have eb' := okP_all f' g' n HO'.out k hlt
      have H4 : Hid (Cel4 wr xb (xo + k * 2) yb (yo + k * 2) (f k) (g k) (f' k) (g' k)) := hide ⟨hx0, hx1, hy0, hy1⟩
      have EA := hide ea
      have EB := hide eb'
      clear ea eb'
      go_upto_region 17 with fail
      go_cut [20, 21] (fun p c W => ∃ gp : Nat, p = .pointer (some ⟨gp, 0, none⟩) ∧ c = .int .i64 0 ∧ W9.heap.size + 2 ≤ gp ∧ Hid (Elem W gp (Fld.mA (f k) (g k) (f' k) (g' k)) (Fld.mB (f k) (g k) (f' k) (g' k))) ∧ Hid (Elem W W9.heap.size (dE f g f' g' n).1 (dE f g f' g' n).2) ∧ Hid (W.rowIs (W9.heap.size + 1) 37 2 (pi2 (dE f g f' g' k).1 (dE f g f' g' k).2)) ∧ Hid (Chg nob W9 W))
      case first =>
        go_region_held3 (fun w' => w'.cell? ⟨xb, xo + k * 2, none⟩ = some (.int .i64 (f k)) ∧ w'.cell? ⟨xb, xo + k * 2 + 1, none⟩ = some (.int .i64 (g k)) ∧ w'.cell? ⟨yb, yo + k * 2, none⟩ = some (.int .i64 (f' k)) ∧ w'.cell? ⟨yb, yo + k * 2 + 1, none⟩ = some (.int .i64 (g' k))) (exact Cel4.S (H4.out.keep (by repeat (first | with_reducible exact Chg.refl _ _ | with_reducible refine Chg.alloc ?_ _ | with_reducible refine Chg.drewN ?_ _ | with_reducible refine Chg.drew ?_ | with_reducible refine Chg.setCell ?_ (fun l => absurd l (by simp <;> omega)) _ | with_reducible refine Chg.trans ?_ (by assumption))))) (first | (go_at_call 25; refine (extMul_ok _ _ _ _ _ EA.out EB.out).mono ?_; rintro e w3 ⟨rfl, k3⟩; obtain ⟨hc, hf, hz⟩ := kcell k3 _ (Nat.le_refl _)))
        all_goals
          have hz3 := k3.size
          simp at hz3
          go_wp2_with fail
          go_meet
          case rel => exact ⟨_, rfl, rfl, by omega, hide (by first | exact Elem.new _ _ _ _ | exact Elem.set (x := .int .i64 0) (y := .int .i64 0) (k3.look (by go_simp)) (k3.look (by go_simp)) _ _), hide (HE.out.keep (by repeat (first | with_reducible exact Chg.refl _ _ | with_reducible refine Chg.alloc ?_ _ | with_reducible refine Chg.drewN ?_ _ | with_reducible refine Chg.drew ?_ | with_reducible refine Chg.setCell ?_ (fun l => absurd l (by simp <;> omega)) _ | with_reducible refine Chg.trans ?_ (by assumption)))), hide (rowIs_keep HS.out (by repeat (first | with_reducible exact Chg.refl _ _ | with_reducible refine Chg.alloc ?_ _ | with_reducible refine Chg.drewN ?_ _ | with_reducible refine Chg.drew ?_ | with_reducible refine Chg.setCell ?_ (fun l => absurd l (by simp <;> omega)) _ | with_reducible refine Chg.trans ?_ (by assumption)))), hide (HC.out.trans (by repeat (first | with_reducible exact Chg.refl _ _ | with_reducible refine Chg.alloc ?_ _ | with_reducible refine Chg.drewN ?_ _ | with_reducible refine Chg.drew ?_ | with_reducible refine Chg.setCell ?_ (fun l => absurd l (by simp <;> omega)) _ | with_reducible refine Chg.trans ?_ (by assumption))))⟩
      case rest =>
        obtain ⟨gp, rfl, rfl, hgp, HE1, HE2, HS2, HC2⟩ := hcut
        clear HE HS HC H4 hx0 hx1 hy0 hy1
        have p0 := HE1.out.c0
        have p1 := HE1.out.c1
        have s0 : wc.cell? ⟨W9.heap.size + 1, 0, none⟩ = some (.int .i64 (dE f g f' g' k).1) := row2_c0 HS2.out
        have s1 : wc.cell? ⟨W9.heap.size + 1, 1, none⟩ = some (.int .i64 (dE f g f' g' k).2) := row2_c1 HS2.out
        go_wp2_with fail
        refine (extAdd_ok _ _ _ _ _ (eok_dE f g f' g' k) (eok_mu _ _ _ _)).mono ?_
        rintro e w4 ⟨he, k4⟩
        have he' : e = .returned (.tuple #[.agg #[.int .i64 (dE f g f' g' (k + 1)).1, .int .i64 (dE f g f' g' (k + 1)).2], .int .i64 0]) := he
        subst he'
        clear he p0 p1 s0 s1
        have HE4 := hide (HE2.out.keep k4)
        have HS4 := hide (rowIs_keep HS2.out k4)
        have HC4 := hide (HC2.out.trans k4)
        have hl4 := HS4.out.lt
        have q0 : w4.cell? ⟨W9.heap.size + 1, 0, none⟩ = some (.int .i64 (dE f g f' g' k).1) := row2_c0 HS4.out
        have q1 : w4.cell? ⟨W9.heap.size + 1, 1, none⟩ = some (.int .i64 (dE f g f' g' k).2) := row2_c1 HS4.out
        have q2 := HS4.out.frozen 0
        have q3 := HS4.out.frozen 1
        clear k4 HE2 HS2 HC2 HE1
        go_wp2
        go_roundw
        case rel => exact ⟨k + 1, by omega, by go_num, hide ((Elem.set2 (g := W9.heap.size + 1) HE4.out (by omega) _ _).keep ((Chg.refl nob _).alloc _)), hide ((row2_set HS4.out _ _).alloc _), hide ((chg2_set HC4.out (W9.heap.size + 1) (fun l => absurd l (by omega)) _ _).alloc _)⟩
        case measure => simp [intOf]; omega
    · obtain rfl : k = n := by omega
      have G10 := hide (G9.out.trans HC.out)
      have E10 := hide (E9.out.keep HC.out)
      clear P9 Q9 G9 E9 HC
      go_wp2_with fail
      refine (readExts_any a1 len1 cap1 z _ (hide (RZ.out.keep G10.out)) HZ (by omega) hcp hcq).mono ?_
      rintro e W11 hr
      have HR := hide hr
      clear hr
      rcases HR.out with ⟨hc, he, k11⟩ | ⟨hc, b11, hb11, he, r11, k11⟩
      · subst he
        have G11 := hide (G10.out.trans k11)
        have E11 := hide (E10.out.keep k11)
        have F11 := hide (HE.out.keep k11)
        have S11 := hide (rowIs_keep HS.out k11)
        clear k11 G10 E10 HE HS HR
        go_wp2_with fail
        refine (sReadExts_any a1 len1 cap1 z _ (hide (RZ.out.keep G11.out)) HZ (by omega)).mono ?_
        rintro e W12 hr
        have HR := hide hr
        clear hr
        rcases HR.out with ⟨_, c12, q12, he, k12⟩ | ⟨hc', _⟩
        · subst he
          have G12 := hide (G11.out.trans k12)
          have e0 := (E11.out.keep k12).c0
          have e1 := (E11.out.keep k12).c1
          have f0 := (F11.out.keep k12).c0
          have f1 := (F11.out.keep k12).c1
          have s0 : W12.cell? ⟨W9.heap.size + 1, 0, none⟩ = some (.int .i64 (dE f g f' g' k).1) := row2_c0 (rowIs_keep S11.out k12)
          have s1 : W12.cell? ⟨W9.heap.size + 1, 1, none⟩ = some (.int .i64 (dE f g f' g' k).2) := row2_c1 (rowIs_keep S11.out k12)
          have hb : (rc z len1 != 0) = true := by simpa using hc
          clear k12 G11 E11 F11 S11 HR
          go_wp2
          go_ret
          exact ⟨rfl, G12.out.toBelow⟩
        · exact absurd hc' hc
      · subst he
        have G11 := hide (G10.out.trans k11)
        have E11 := hide (E10.out.keep k11)
        have F11 := hide (HE.out.keep k11)
        have S11 := hide (rowIs_keep HS.out k11)
        have X11 := hide r11
        clear k11 G10 E10 HE HS HR r11
        go_wp2_with fail
        refine (sReadExts_any a1 len1 cap1 z _ (hide (RZ.out.keep G11.out)) HZ (by omega)).mono ?_
        rintro e W12 hr
        have HR := hide hr
        clear hr
        rcases HR.out with ⟨hc', _⟩ | ⟨_, c12, q12, he, _, k12⟩
        · exact absurd hc hc'
        · subst he
          have G12 := hide (G11.out.trans k12)
          have X12 := hide (rowIs_keep X11.out k12)
          have e0 := (E11.out.keep k12).c0
          have e1 := (E11.out.keep k12).c1
          have f0 := (F11.out.keep k12).c0
          have f1 := (F11.out.keep k12).c1
          have s0 : W12.cell? ⟨W9.heap.size + 1, 0, none⟩ = some (.int .i64 (dE f g f' g' k).1) := row2_c0 (rowIs_keep S11.out k12)
          have s1 : W12.cell? ⟨W9.heap.size + 1, 1, none⟩ = some (.int .i64 (dE f g f' g' k).2) := row2_c1 (rowIs_keep S11.out k12)
          obtain ⟨hbc, h88, h65⟩ := rc_zero hc
          have HBC2 := hide hbc
          have H88 := hide h88
          clear k12 G11 E11 F11 S11 HR X11 hc hbc h88
          go_wp2_with fail
          refine (extBytes_yes _ (len1 / 8) (len1 / 8) (rf z) (rg z) _ (extBytes_any (some ⟨b11, 0, none⟩) (len1 / 8) (len1 / 8) (rf z) (rg z) _ (hide (PairV.of_row X12.out (Nat.le_refl _))) (by omega)) HBC2.out).mono ?_
          rintro e W13 ⟨b13, hb13, rfl, r13, k13⟩
          have G13 := hide (G12.out.trans k13)
          have hv1 := conv_bytes (some ⟨b13, 0, none⟩) (len1 / 8 * 8) (len1 / 8 * 8) (byt (rf z) (rg z)) W13 (RowV.of_row r13 (Nat.le_refl _))
          have hv2 := conv_bytes a1 len1 cap1 z W13 (RZ.out.keep G13.out)
          have hst : strOfNums ((List.range (len1 / 8 * 8)).map (byt (rf z) (rg z))) = strOfNums ((List.range len1).map z) := by
            rw [H88.out]
            congr 1
            exact List.map_congr_left (fun i _ => byt_rf z HZ.out i)
          rw [hst] at hv1
          generalize strOfNums ((List.range len1).map z) = S at hv1 hv2
          clear hst r13 k13 e0 e1 f0 f1 s0 s1
          go_wp2
          go_ret
          exact ⟨rfl, G13.out.toBelow⟩

set_option maxRecDepth 100000 in
theorem lifted (os : Os) (started : os.Started) (H : Type) (enc : TypeId × Value → H) :
    ReturnsInHanded {} Try.checked os 8 .any (Rows.fnExtBytesSpec.pre6 enc Try.prog Try.f8 Rows.fnExtBytesRow.domain false) (Rows.fnExtBytesSpec.post enc Try.prog Try.f8 false true false false) := by
  refine returnsInHanded_of_change (C := Try.checked) own started (by kernel_rfl) Try.func8
    (ChangeSpec.witness6 (enc := enc) (C := Try.checked) false ⟨#[], #[.slice none 0 0, .slice none 0 0], []⟩ 8 (by kernel_rfl) (by kernel_rfl) (by kernel_rfl) (by kernel_rfl)) ?_
  intro W base args ds gs before hval0 hW hcnd _
  have hval : ∀ (j : Nat) t v, Try.f8.params[j]? = some t → args[j]? = some v → Value.okWide Try.prog W .any base t v := hval0
  have hW' := hW
  obtain ⟨p, q, hA0, hV, rfl, hfz, hnd⟩ := hW
  have hA : DataW.TrodAll enc Try.prog W 0 (fun _ => true) true Try.f8.params.toList args.toList ds p := hA0
  rw [Try.params8] at hA hval
  obtain ⟨v0, vs0, d0, ds0, p0, q0, hargs, rfl, rfl, h0, r0⟩ := trodAll_cons hA
  obtain ⟨v1, vs1, d1, ds1, p1, q1, rfl, rfl, rfl, h1, r1⟩ := trodAll_cons r0
  obtain ⟨rfl, rfl, rfl⟩ := trodAll_nil r1
  obtain rfl : args = #[v0, v1] := by cases args; simp_all
  obtain ⟨rfl, rfl⟩ := trodVars_none hV
  obtain ⟨a0, len0, cap0, rfl⟩ := okWide_slice Try.underlying22 (hval 0 22 v0 rfl rfl)
  have k0 := h0
  have lt0 : ∀ x ∈ p0, x.block < W.heap.size := by obtain ⟨m, hm⟩ := k0; exact DataW.trod_lt m _ _ _ hm
  obtain ⟨z0, w0⟩ : ∃ zs, IsRow .u8 W a0 len0 cap0 zs := by
    obtain ⟨fuel, hf⟩ := h0
    rcases open_ints Try.underlying22 Try.underlying5 (by kernel_rfl) hf with ⟨hcs, _⟩ | ⟨x, l, c, zs, hcs, _, hl, hm, hz, _, hcell, hwz⟩
    · simp [Value.cells] at hcs
      obtain ⟨rfl, rfl, rfl⟩ := hcs
      exact ⟨[], .inl ⟨rfl, rfl, rfl, rfl⟩⟩
    · simp [Value.cells] at hcs
      obtain ⟨rfl, rfl, rfl⟩ := hcs
      exact ⟨zs, .inr ⟨_, rfl, hl, hm, by simpa using hz, hcell, hwz⟩⟩
  obtain ⟨a1, len1, cap1, rfl⟩ := okWide_slice Try.underlying22 (hval 1 22 v1 rfl rfl)
  have k1 := h1
  have lt1 : ∀ x ∈ p1, x.block < W.heap.size := by obtain ⟨m, hm⟩ := k1; exact DataW.trod_lt m _ _ _ hm
  obtain ⟨z1, w1⟩ : ∃ zs, IsRow .u8 W a1 len1 cap1 zs := by
    obtain ⟨fuel, hf⟩ := h1
    rcases open_ints Try.underlying22 Try.underlying5 (by kernel_rfl) hf with ⟨hcs, _⟩ | ⟨x, l, c, zs, hcs, _, hl, hm, hz, _, hcell, hwz⟩
    · simp [Value.cells] at hcs
      obtain ⟨rfl, rfl, rfl⟩ := hcs
      exact ⟨[], .inl ⟨rfl, rfl, rfl, rfl⟩⟩
    · simp [Value.cells] at hcs
      obtain ⟨rfl, rfl, rfl⟩ := hcs
      exact ⟨zs, .inr ⟨_, rfl, hl, hm, by simpa using hz, hcell, hwz⟩⟩
  clear hA0 hval0
  refine (walk a0 len0 cap0 z0 a1 len1 cap1 z1 W w0 w1).mono fun e W' ⟨he, bel⟩ => ?_
  subst he
  exact ⟨_, rfl, _, _, _, [], _, [], hW', trodAll_mk1 (shut_bool Try.underlying4 _), (trodAll_cons_mk (Below.trod laidOut (by kernel_rfl) (of_decide_eq_true (by kernel_rfl)) k0 bel lt0) (trodAll_cons_mk (Below.trod laidOut (by kernel_rfl) (of_decide_eq_true (by kernel_rfl)) k1 bel lt1) trodAll_mk0)), rfl, bel.frame _, fun h => by cases h⟩

theorem over : Rows.fnExtBytesRow.holds Try.pinned (OpenSpec.ofChange Rows.fnExtBytesSpec) :=
  OpenClaim.holds_of_wide 8 Try.f8 rfl rfl rfl rfl rfl rfl rfl ⟨rfl, rfl, rfl, rfl, rfl⟩ rfl rfl rfl rfl rfl (by kernel_rfl) Try.func8 (by kernel_rfl)
    (of_decide_eq_true (by kernel_rfl)) (by unfold Func.isWrapper; first | (rw [if_pos (by decide +kernel)]; kernel_rfl) | (rw [if_neg (by decide +kernel)]; exact ⟨rfl, rfl⟩))
    (fun os started H enc _ => lifted os started H enc)

end Go.Proofs.Ytencdbocifpekaa.fnExtBytes
namespace Go.Proofs.Ytencdbocifpekaa
theorem FnExtBytes_holds : Rows.FnExtBytesSaid := fnExtBytes.over
#print axioms FnExtBytes_holds
end Go.Proofs.Ytencdbocifpekaa
