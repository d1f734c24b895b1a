/- Whether a list of entries is told back by a map, and whether it is a matrix: the program's contracts. -/
import Derived.Test.YtfbjlohnbpienaaGrdS
import Derived.Laws.StructEq
namespace Go.Proofs.Ytfbjlohnbpienaa
open Go.ChangeShapes Go.WideShapes Go.ChangeAt Go.RowKit
open Go.Shelf Go.Lib Go.Sort
open Go.Maps (Keyed IsMap Tidy has)
set_option linter.unusedVariables false
set_option maxRecDepth 100000
set_option linter.unusedSimpArgs false

theorem neE : NeqAt Try.prog 117 (fun x : En => .agg (ecE x).toArray) (fun x y => decide (x = y)) := by
  refine ⟨fun x y w => ?_, GuardAt.agg _ (by kernel_rfl)⟩
  have u3 := Try.underlying3
  have a3 := Try.isAgg3
  have z3 := Try.sizeOf3
  have hS : Try.prog.underlying 117 = some (.struct (Try.prog.fieldsOf 117)) := by kernel_rfl
  have hp : Try.prog.stoodInHeld 117 = false := by kernel_rfl
  obtain ⟨x1, x2, x3⟩ := x
  obtain ⟨y1, y2, y3⟩ := y
  simp only [ecE]
  rw [run_neq_struct, show (10000 : Nat) = 9999 + 1 from rfl, run_equalIn_agg w 9999 117 _ _ hS hp]
  simp only [Program.fieldsOf, Try.underlying117]
  go_simp
  by_cases h1 : x1 = y1 <;> by_cases h2 : x2 = y2 <;> by_cases h3 : x3 = y3 <;> simp [h1, h2, h3]
theorem allEq_iff : ∀ (l l' : List En), Lib.allEq (fun x y : En => decide (x = y)) l l' = decide (l = l')
  | [], [] => by simp [Lib.allEq]
  | [], _ :: _ => by simp [Lib.allEq]
  | _ :: _, [] => by simp [Lib.allEq]
  | x :: l, y :: l' => by
    rw [Lib.allEq, allEq_iff l l']
    by_cases h : x = y <;> simp [h]
theorem eLs_bang {n : Nat} {X : Nat → En} {j : Nat} (h : j < n) : (eLs n X)[j]! = X j := by
  rw [getElem!_pos _ _ (by rw [eLs_len]; exact h), eLs_get]

set_option maxHeartbeats 2000000 in
theorem equalE_any (g m cap : Nat) (c : Option Addr) (n cap' : Nat) (Y X : Nat → En) (w : World) (h1 : Hid (EntV w (some ⟨g, 0, none⟩) m Y)) (h2 : Hid (EntV w c n X)) (hm : m ≤ 200) (hn : n ≤ 200) :
    Calls Try.prog 95 #[.slice (some ⟨g, 0, none⟩) m cap, .slice c n cap'] w fun e w' => e = .returned (.bool (decide (eLs m Y = eLs n X))) ∧ Chg nob w w' := by
  have cells : ∀ {c : Option Addr} {b o n : Nat} {X : Nat → En}, EntV w c n X → c = some ⟨b, o, none⟩ → ∀ j, j < (eLs n X).length → ∀ i v, (ecE (eLs n X)[j]!)[i]? = some v → w.cell? ⟨b, o + j * 3 + i, none⟩ = some v := by
    intro c b o n X h ec j hj i v hv
    rw [eLs_len] at hj
    rw [eLs_bang hj] at hv
    obtain ⟨xb, xo, e, _, c0, c1, c2⟩ := h j hj
    rw [ec] at e
    simp at e
    obtain ⟨rfl, rfl⟩ := e
    match i, hv with
    | 0, hv => simp [ecE] at hv; subst hv; exact c0
    | 1, hv => simp [ecE] at hv; subst hv; exact c1
    | 2, hv => simp [ecE] at hv; subst hv; exact c2
    | i + 3, hv => simp [ecE] at hv
  by_cases h0 : n = 0
  · subst h0
    clear cells h1 h2
    by_cases hm0 : m = 0
    · subst hm0
      go_enter Try.func95, Try.ntmps95
      go_wp2
      go_rounds 1
      go_ret
      exact ⟨rfl, Chg.refl _ _⟩
    · have hm1 : ¬ (m : Int) = 0 := by omega
      have hz : decide (eLs m Y = eLs 0 X) = false := by
        rw [decide_eq_false_iff_not]
        intro e
        have := congrArg List.length e
        rw [eLs_len, eLs_len] at this
        omega
      rw [hz]
      go_enter Try.func95, Try.ntmps95
      go_wp2
      go_ret
      exact ⟨rfl, Chg.refl _ _⟩
  · obtain ⟨b2, o2, ec, _⟩ := h2.out 0 (by omega)
    have hcon := AnyQ.slices_Equal equE 3 Try.isAgg117 Try.sizeOf117 ecE (fun _ => rfl) (fun x y => decide (x = y)) neE g 0 m cap b2 o2 n cap' (eLs m Y) (eLs n X) w (by rw [eLs_len]; exact Nat.le_refl _) (by rw [eLs_len]; exact Nat.le_refl _) (by omega) (by omega) (cells h1.out rfl) (cells h2.out ec)
    change Calls Try.prog 95 _ _ _ at hcon
    rw [← ec] at hcon
    refine hcon.mono ?_
    rintro e w' ⟨rfl, q, rfl⟩
    rw [List.take_of_length_le (by rw [eLs_len]; exact Nat.le_refl _), List.take_of_length_le (by rw [eLs_len]; exact Nat.le_refl _), allEq_iff]
    exact ⟨rfl, (Chg.refl _ _).drewN _⟩

set_option maxHeartbeats 2000000 in
theorem tells_any (b n0 : Nat) (D0 : DataW Unit) (c : Option Addr) (n cap : Nat) (X : Nat → En) (w : World) (hg : Hid (Grd w b n0 D0)) (hv : Hid (EntV w c n X)) (hn : n ≤ 200) (hw : Hid (∀ i, i < n → (Lit.int .i64 (X i).1).wf = true ∧ (Lit.int .i64 (X i).2.1).wf = true ∧ (Lit.int .i64 (X i).2.2).wf = true)) :
    Calls Try.prog 92 #[.map (some b), .slice c n cap] w fun e w' => e = .returned (.bool (rsg n X)) ∧ (∃ D, Grd w' b n D) ∧ Chg (fun k => k = b) w w' := by
  have HB := hik (show ∀ xb xo, c = some ⟨xb, xo, none⟩ → 0 < n → xb ≠ b from by obtain ⟨es, ck, hb⟩ := hg.out.mapAt; exact hv.out.noMap hb)
  go_enter Try.func92, Try.ntmps92
  go_wp2_with fail
  refine (take_any b n0 D0 c n cap X _ hg hv hn hw).mono ?_
  rintro e w1 ⟨rfl, ⟨D, g1, f1⟩, k1⟩
  have G1 := hik g1
  have F1 := hik f1
  have K1 := hik k1
  have V1 := hik (hv.out.chg k1 (fun xb xo e hp _ => HB.out xb xo e hp))
  clear g1 f1 k1
  go_wp2_with fail
  refine (entries_any b n D X n _ G1 F1 hn (hik (fun i hi => ⟨(hw.out i hi).1, (hw.out i hi).2.1⟩))).mono ?_
  rintro e w2 ⟨g, m, cp, Y, rfl, hm, hgl, v2, t2, k2⟩
  have V2 := hik v2
  have T2 := hik t2
  have G2 := hik (G1.out.keep k2)
  have K2 := hik (K1.out.trans k2.wide)
  have W2 := hik (V1.out.keep k2)
  clear v2 t2 k2
  go_wp2_with fail
  refine (equalE_any g m cp c n cap Y X _ V2 W2 hm hn).mono ?_
  rintro e w3 ⟨rfl, k3⟩
  have G3 := hik (G2.out.keep k3)
  have K3 := hik (K2.out.trans k3.wide)
  clear k3
  have hbb : decide (eLs m Y = eLs n X) = rsg n X := by
    have := told_back T2.out
    cases h : rsg n X
    · rw [h] at this
      simp [this]
    · rw [h] at this
      simp [this]
  rw [hbb]
  go_wp2
  go_ret
  exact ⟨rfl, ⟨D, G3.out⟩, K3.out⟩

set_option maxHeartbeats 4000000 in
theorem isMatrix_any (b n0 : Nat) (D0 : DataW Unit) (c : Option Addr) (n cap : Nat) (X : Nat → En) (R C : Int) (w : World) (hg : Hid (Grd w b n0 D0)) (hv : Hid (EntV w c n X)) (hn : n ≤ 1099511627776) (hR : R ≤ 1048576) (hC : C ≤ 1048576) :
    Calls Try.prog 77 #[.map (some b), .slice c n cap, .int .i64 R, .int .i64 C] w fun e w' => e = .returned (.bool (elm R C n X)) ∧ (∃ n1 D, Grd w' b n1 D) ∧ Chg (fun k => k = b) w w' := by
  by_cases h2 : 200 < n
  · have hz : elm R C n X = false := by simp [elm, show ¬ n ≤ 200 by omega]
    have h3 : (200 : Int) < n := by omega
    rw [hz]
    go_enter Try.func77, Try.ntmps77
    go_wp2
    go_ret
    exact ⟨rfl, ⟨n0, D0, hg.out⟩, Chg.refl _ _⟩
  have h3 : ¬ (200 : Int) < n := by omega
  go_enter Try.func77, Try.ntmps77
  go_wp2
  go_loopw [16] (fun s wr => ∃ k : Nat, k ≤ n ∧ s = .int .i64 k ∧ Hid (∀ i, i < k → win R C (X i) = true) ∧ Hid (Chg nob w wr)) (fun s _ => n - (intOf s).toNat)
  case atStart => exact ⟨0, Nat.zero_le _, rfl, hik (fun i hi => by omega), hik (Chg.refl _ _)⟩
  case round =>
    obtain ⟨k, hk, rfl, HW, KW⟩ := hrel
    by_cases hlt : k < n
    · obtain ⟨xb, xo, rfl, hxb, c0, c1, c2⟩ := (hv.out.keep KW.out) k hlt
      have hkn : ((k : Nat) : Int) < n := by omega
      have HXb := hik hxb
      generalize hxx : X k = x at c0 c1 c2
      have HE := hik hxx
      clear hxx
      cases hwi : win R C x with
      | true =>
        have HT := hik hwi
        have hcon := within_any x R C
        rw [hwi] at hcon
        clear hwi
        go_wp2_with fail
        refine (hcon _).mono ?_
        rintro e w1 ⟨rfl, k1⟩
        have K1 := hik ((KW.out.alloc _).trans k1)
        clear k1 hcon
        go_wp2
        go_roundw
        case rel =>
          refine ⟨k + 1, by omega, by go_num, hik (fun i hi => ?_), K1⟩
          by_cases e : i = k
          · subst e; rw [HE.out]; exact HT.out
          · exact HW.out i (by omega)
        case measure => simp [intOf]; omega
      | false =>
        have HF := hik hwi
        have hcon := within_any x R C
        rw [hwi] at hcon
        clear hwi
        go_wp2_with fail
        refine (hcon _).mono ?_
        rintro e w1 ⟨rfl, k1⟩
        have K1 := hik ((KW.out.alloc _).trans k1)
        clear k1 hcon
        go_wp2
        go_ret
        have hz : elm R C n X = false := by
          have : ((List.range n).all fun i => win R C (X i)) = false := by
            rw [List.all_eq_false]
            exact ⟨k, by simpa using hlt, by rw [HE.out, HF.out]; simp⟩
          simp [elm, this]
        rw [hz]
        exact ⟨rfl, ⟨n0, D0, hg.out.keep K1.out⟩, K1.out.wide⟩
    · obtain rfl : k = n := by omega
      have hwf : ∀ i, i < k → (Lit.int .i64 (X i).1).wf = true ∧ (Lit.int .i64 (X i).2.1).wf = true ∧ (Lit.int .i64 (X i).2.2).wf = true := by
        intro i hi
        have := HW.out i hi
        simp [win] at this
        exact ⟨wf64 (by omega) (by omega), wf64 (by omega) (by omega), wf64 (by omega) (by omega)⟩
      have HWF := hik hwf
      have hz : elm R C k X = rsg k X := by
        have : ((List.range k).all fun i => win R C (X i)) = true := by
          rw [List.all_eq_true]
          intro i hi
          exact HW.out i (by simpa using hi)
        simp [elm, this, show k ≤ 200 by omega]
      have HZ := hik hz
      clear hwf hz
      go_wp2_with fail
      refine (tells_any b n0 D0 c k cap X _ (hik (hg.out.keep KW.out)) (hik (hv.out.keep KW.out)) (by omega) HWF).mono ?_
      rintro e w1 ⟨rfl, ⟨D, g1⟩, k1⟩
      have G1 := hik g1
      have K1 := hik (KW.out.wide.trans k1)
      clear g1 k1
      go_wp2
      go_ret
      refine ⟨?_, ⟨k, D, G1.out⟩, K1.out⟩
      rw [HZ.out]
      rfl
end Go.Proofs.Ytfbjlohnbpienaa
