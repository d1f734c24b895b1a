/- Gates and circuits: which are right, how many of a kind there are: the model's contracts. -/
import Derived.Test.YtgimmmmiodlepabDoorGatE
import Derived.Test.YtgimmmmiodlepabDoorWalks
import Derived.Test.YtgimmmmiodlepabDoorLook
import Derived.WalkKit
import Derived.Deep.DeepCutAuto
namespace Go.Proofs.YtgimmmmiodlepabDoor
open Go.ChangeShapes Go.WideShapes Go.ChangeAt Go.RowKit
set_option linter.unusedVariables false
set_option maxRecDepth 100000
set_option linter.unusedSimpArgs false

set_option maxHeartbeats 1000000 in
theorem sUses_any (o : Int) (w : World) : Calls Tryd.prog 53 #[.int .i64 o] w fun e w' => e = .returned (.int .i64 (usg o)) ∧ w' = w := by
  have hin := l01In_any o 4 7 w
  cases h : inW o 4 7 with
  | true =>
    have H := hik (show usg o = 2 by have : 4 ≤ o ∧ o ≤ 7 := by simpa [inW] using h
                                     unfold usg; rw [if_pos this])
    rw [h] at hin
    go_enter Tryd.func53, Tryd.ntmps53
    go_wp2_with (go_at_call 65; refine hin.mono ?_; rintro e w' ⟨rfl, hw⟩; have hw := hw.symm; subst hw)
    go_ret
    exact ⟨ret_int H.out.symm, rfl⟩
  | false =>
    have h' : ¬ (4 ≤ o ∧ o ≤ 7) := by simpa [inW] using h
    rw [h] at hin
    by_cases h8 : o = 8
    · subst h8
      go_enter Tryd.func53, Tryd.ntmps53
      go_wp2_with (go_at_call 65; refine hin.mono ?_; rintro e w' ⟨rfl, hw⟩; have hw := hw.symm; subst hw)
      go_ret
      exact ⟨rfl, rfl⟩
    · have H := hik (show usg o = 0 by unfold usg; rw [if_neg h', if_neg h8])
      clear h'
      go_enter Tryd.func53, Tryd.ntmps53
      go_wp2_with (go_at_call 65; refine hin.mono ?_; rintro e w' ⟨rfl, hw⟩; have hw := hw.symm; subst hw)
      go_ret
      exact ⟨ret_int H.out.symm, rfl⟩

theorem gtb_two (m o a b k : Int) (h : 4 ≤ o ∧ o ≤ 7) : gtb m (o, a, b, k) = (inW a 0 (m - 1) && (inW b 0 (m - 1) && decide (k = 0))) := by
  have e : gtb m (o, a, b, k) = (ptb a true m && (ptb b true m && ptb k false 2130706433)) := by
    unfold gtb usg
    simp only [if_pos h]
    rw [decide_eq_true (show 1 ≤ o by omega), decide_eq_true (show o ≤ 8 by omega), decide_eq_false (show ¬ o = 3 by omega)]
    rfl
  rw [e, Bool.eq_iff_iff]
  simp [ptb, inW]
  omega
theorem gtb_bit (m a b k : Int) : gtb m (8, a, b, k) = (inW a 0 (m - 1) && (decide (b = 0) && decide (k = 0))) := by
  have e : gtb m (8, a, b, k) = (ptb a true m && (ptb b false m && ptb k false 2130706433)) := rfl
  rw [e, Bool.eq_iff_iff]
  simp [ptb, inW]
  omega
theorem gtb_con (m a b k : Int) : gtb m (3, a, b, k) = (decide (a = 0) && (decide (b = 0) && fok k)) := by
  have e : gtb m (3, a, b, k) = (ptb a false m && (ptb b false m && ptb k true 2130706433)) := rfl
  rw [e, Bool.eq_iff_iff]
  simp [ptb, fok]
  omega
theorem gtb_in (m o a b k : Int) (h : o = 1 ∨ o = 2) : gtb m (o, a, b, k) = (decide (a = 0) && (decide (b = 0) && decide (k = 0))) := by
  have e : gtb m (o, a, b, k) = (ptb a false m && (ptb b false m && ptb k false 2130706433)) := by rcases h with rfl | rfl <;> rfl
  rw [e, Bool.eq_iff_iff]
  simp [ptb]
  omega

set_option maxHeartbeats 8000000 in
theorem sGate_any (x : Gt) (m : Int) (w : World) (m0 : -1099511627776 ≤ m) (m1 : m ≤ 1099511627776) : Calls Tryd.prog 51 #[.agg #[.int .i64 x.1, .int .i64 x.2.1, .int .i64 x.2.2.1, .int .i64 x.2.2.2], .int .i64 m] w fun e w' => e = .returned (.bool (gtb m x)) ∧ Chg nob w w' := by
  obtain ⟨o, a, b, k⟩ := x
  have KB := hik ((Chg.refl nob w).alloc (.cells #[.int .i64 o, .int .i64 a, .int .i64 b, .int .i64 k] 51))
  by_cases ho : 1 ≤ o ∧ o ≤ 8
  · have hop : inW o 1 8 = true := decide_eq_true ho
    by_cases h2 : 4 ≤ o ∧ o ≤ 7
    · have HG := hik (gtb_two m o a b k h2)
      have hu : usg o = 2 := by unfold usg; rw [if_pos h2]
      have h3 : ¬ o = 3 := by omega
      generalize gtb m (o, a, b, k) = ans at HG ⊢
      clear h2 ho
      cases b1 : inW a 0 (m - 1) with
      | false =>
        go_enter Tryd.func51, Tryd.ntmps51
        go_wp2_with (first | (go_at_call 65; refine (l01In_any _ _ _ _).mono ?_; rintro e w' ⟨rfl, hw⟩; have hw := hw.symm; subst hw) | (go_at_call 53; refine (sUses_any _ _).mono ?_; rintro e w' ⟨rfl, hw⟩; have hw := hw.symm; subst hw) | (go_at_call 88; refine (sFieldOK_any _ _).mono ?_; rintro e w' ⟨rfl, hw⟩; have hw := hw.symm; subst hw))
        go_ret
        exact ⟨ret_bool (by rw [HG.out, b1]; rfl), KB.out⟩
      | true =>
      cases b2 : inW b 0 (m - 1) with
      | false =>
        go_enter Tryd.func51, Tryd.ntmps51
        go_wp2_with (first | (go_at_call 65; refine (l01In_any _ _ _ _).mono ?_; rintro e w' ⟨rfl, hw⟩; have hw := hw.symm; subst hw) | (go_at_call 53; refine (sUses_any _ _).mono ?_; rintro e w' ⟨rfl, hw⟩; have hw := hw.symm; subst hw) | (go_at_call 88; refine (sFieldOK_any _ _).mono ?_; rintro e w' ⟨rfl, hw⟩; have hw := hw.symm; subst hw))
        go_ret
        exact ⟨ret_bool (by rw [HG.out, b1, b2]; rfl), KB.out⟩
      | true =>
        go_enter Tryd.func51, Tryd.ntmps51
        go_wp2_with (first | (go_at_call 65; refine (l01In_any _ _ _ _).mono ?_; rintro e w' ⟨rfl, hw⟩; have hw := hw.symm; subst hw) | (go_at_call 53; refine (sUses_any _ _).mono ?_; rintro e w' ⟨rfl, hw⟩; have hw := hw.symm; subst hw) | (go_at_call 88; refine (sFieldOK_any _ _).mono ?_; rintro e w' ⟨rfl, hw⟩; have hw := hw.symm; subst hw))
        go_ret
        exact ⟨ret_bool (by rw [HG.out, b1, b2]; rfl), KB.out⟩
    · by_cases h8 : o = 8
      · subst h8
        have HG := hik (gtb_bit m a b k)
        have hu : usg 8 = 1 := rfl
        generalize gtb m (8, a, b, k) = ans at HG ⊢
        clear h2 ho
        cases b1 : inW a 0 (m - 1) with
        | false =>
          go_enter Tryd.func51, Tryd.ntmps51
          go_wp2_with (first | (go_at_call 65; refine (l01In_any _ _ _ _).mono ?_; rintro e w' ⟨rfl, hw⟩; have hw := hw.symm; subst hw) | (go_at_call 53; refine (sUses_any _ _).mono ?_; rintro e w' ⟨rfl, hw⟩; have hw := hw.symm; subst hw) | (go_at_call 88; refine (sFieldOK_any _ _).mono ?_; rintro e w' ⟨rfl, hw⟩; have hw := hw.symm; subst hw))
          go_ret
          exact ⟨ret_bool (by rw [HG.out, b1]; rfl), KB.out⟩
        | true =>
        by_cases b2 : b = 0
        · subst b2
          go_enter Tryd.func51, Tryd.ntmps51
          go_wp2_with (first | (go_at_call 65; refine (l01In_any _ _ _ _).mono ?_; rintro e w' ⟨rfl, hw⟩; have hw := hw.symm; subst hw) | (go_at_call 53; refine (sUses_any _ _).mono ?_; rintro e w' ⟨rfl, hw⟩; have hw := hw.symm; subst hw) | (go_at_call 88; refine (sFieldOK_any _ _).mono ?_; rintro e w' ⟨rfl, hw⟩; have hw := hw.symm; subst hw))
          go_ret
          exact ⟨ret_bool (by rw [HG.out, b1]; rfl), KB.out⟩
        · have b2' : (b != 0) = true := by simpa using b2
          go_enter Tryd.func51, Tryd.ntmps51
          go_wp2_with (first | (go_at_call 65; refine (l01In_any _ _ _ _).mono ?_; rintro e w' ⟨rfl, hw⟩; have hw := hw.symm; subst hw) | (go_at_call 53; refine (sUses_any _ _).mono ?_; rintro e w' ⟨rfl, hw⟩; have hw := hw.symm; subst hw) | (go_at_call 88; refine (sFieldOK_any _ _).mono ?_; rintro e w' ⟨rfl, hw⟩; have hw := hw.symm; subst hw))
          go_ret
          exact ⟨ret_bool (by rw [HG.out, b1, decide_eq_false b2]; rfl), KB.out⟩
      · have hu : usg o = 0 := by unfold usg; rw [if_neg h2, if_neg h8]
        by_cases h3 : o = 3
        · subst h3
          have HG := hik (gtb_con m a b k)
          generalize gtb m (3, a, b, k) = ans at HG ⊢
          clear h2 ho h8
          by_cases b1 : a = 0
          · subst b1
            by_cases b2 : b = 0
            · subst b2
              go_enter Tryd.func51, Tryd.ntmps51
              go_wp2_with (first | (go_at_call 65; refine (l01In_any _ _ _ _).mono ?_; rintro e w' ⟨rfl, hw⟩; have hw := hw.symm; subst hw) | (go_at_call 53; refine (sUses_any _ _).mono ?_; rintro e w' ⟨rfl, hw⟩; have hw := hw.symm; subst hw) | (go_at_call 88; refine (sFieldOK_any _ _).mono ?_; rintro e w' ⟨rfl, hw⟩; have hw := hw.symm; subst hw))
              go_ret
              exact ⟨ret_bool (by rw [HG.out]; rfl), KB.out⟩
            · have b2' : (b != 0) = true := by simpa using b2
              go_enter Tryd.func51, Tryd.ntmps51
              go_wp2_with (first | (go_at_call 65; refine (l01In_any _ _ _ _).mono ?_; rintro e w' ⟨rfl, hw⟩; have hw := hw.symm; subst hw) | (go_at_call 53; refine (sUses_any _ _).mono ?_; rintro e w' ⟨rfl, hw⟩; have hw := hw.symm; subst hw) | (go_at_call 88; refine (sFieldOK_any _ _).mono ?_; rintro e w' ⟨rfl, hw⟩; have hw := hw.symm; subst hw))
              go_ret
              exact ⟨ret_bool (by rw [HG.out, decide_eq_false b2]; rfl), KB.out⟩
          · have b1' : (a != 0) = true := by simpa using b1
            go_enter Tryd.func51, Tryd.ntmps51
            go_wp2_with (first | (go_at_call 65; refine (l01In_any _ _ _ _).mono ?_; rintro e w' ⟨rfl, hw⟩; have hw := hw.symm; subst hw) | (go_at_call 53; refine (sUses_any _ _).mono ?_; rintro e w' ⟨rfl, hw⟩; have hw := hw.symm; subst hw) | (go_at_call 88; refine (sFieldOK_any _ _).mono ?_; rintro e w' ⟨rfl, hw⟩; have hw := hw.symm; subst hw))
            go_ret
            exact ⟨ret_bool (by rw [HG.out, decide_eq_false b1]; rfl), KB.out⟩
        · have HG := hik (gtb_in m o a b k (by omega))
          generalize gtb m (o, a, b, k) = ans at HG ⊢
          clear h2 ho h8
          by_cases b1 : a = 0
          · subst b1
            by_cases b2 : b = 0
            · subst b2
              go_enter Tryd.func51, Tryd.ntmps51
              go_wp2_with (first | (go_at_call 65; refine (l01In_any _ _ _ _).mono ?_; rintro e w' ⟨rfl, hw⟩; have hw := hw.symm; subst hw) | (go_at_call 53; refine (sUses_any _ _).mono ?_; rintro e w' ⟨rfl, hw⟩; have hw := hw.symm; subst hw) | (go_at_call 88; refine (sFieldOK_any _ _).mono ?_; rintro e w' ⟨rfl, hw⟩; have hw := hw.symm; subst hw))
              go_ret
              exact ⟨ret_bool (by rw [HG.out]; rfl), KB.out⟩
            · have b2' : (b != 0) = true := by simpa using b2
              go_enter Tryd.func51, Tryd.ntmps51
              go_wp2_with (first | (go_at_call 65; refine (l01In_any _ _ _ _).mono ?_; rintro e w' ⟨rfl, hw⟩; have hw := hw.symm; subst hw) | (go_at_call 53; refine (sUses_any _ _).mono ?_; rintro e w' ⟨rfl, hw⟩; have hw := hw.symm; subst hw) | (go_at_call 88; refine (sFieldOK_any _ _).mono ?_; rintro e w' ⟨rfl, hw⟩; have hw := hw.symm; subst hw))
              go_ret
              exact ⟨ret_bool (by rw [HG.out, decide_eq_false b2]; rfl), KB.out⟩
          · have b1' : (a != 0) = true := by simpa using b1
            go_enter Tryd.func51, Tryd.ntmps51
            go_wp2_with (first | (go_at_call 65; refine (l01In_any _ _ _ _).mono ?_; rintro e w' ⟨rfl, hw⟩; have hw := hw.symm; subst hw) | (go_at_call 53; refine (sUses_any _ _).mono ?_; rintro e w' ⟨rfl, hw⟩; have hw := hw.symm; subst hw) | (go_at_call 88; refine (sFieldOK_any _ _).mono ?_; rintro e w' ⟨rfl, hw⟩; have hw := hw.symm; subst hw))
            go_ret
            exact ⟨ret_bool (by rw [HG.out, decide_eq_false b1]; rfl), KB.out⟩
  · have hop : inW o 1 8 = false := decide_eq_false ho
    have HG := hik (show gtb m (o, a, b, k) = false by unfold gtb; rw [show (decide (1 ≤ (o, a, b, k).1) && decide ((o, a, b, k).1 ≤ 8)) = false by simp; omega]; rfl)
    clear ho
    go_enter Tryd.func51, Tryd.ntmps51
    go_wp2_with (first | (go_at_call 65; refine (l01In_any _ _ _ _).mono ?_; rintro e w' ⟨rfl, hw⟩; have hw := hw.symm; subst hw) | (go_at_call 53; refine (sUses_any _ _).mono ?_; rintro e w' ⟨rfl, hw⟩; have hw := hw.symm; subst hw) | (go_at_call 88; refine (sFieldOK_any _ _).mono ?_; rintro e w' ⟨rfl, hw⟩; have hw := hw.symm; subst hw))
    go_ret
    exact ⟨ret_bool HG.out.symm, KB.out⟩

set_option maxHeartbeats 1000000 in
theorem l01Bit_any (b : Bool) (w : World) : Calls Tryd.prog 94 #[.bool b] w fun e w' => e = .returned (.int .i64 (if b then 1 else 0)) ∧ w' = w := by
  cases b with
  | true =>
    go_enter Tryd.func94, Tryd.ntmps94
    go_wp2
    go_ret
    exact ⟨rfl, rfl⟩
  | false =>
    go_enter Tryd.func94, Tryd.ntmps94
    go_wp2
    go_ret
    exact ⟨rfl, rfl⟩

set_option maxHeartbeats 4000000 in
theorem sCount_any (c : Option Addr) (n cap : Nat) (G : Nat → Gt) (o : Int) (w : World) (hv : Hid (GatV w c n G)) (hn : n ≤ 1099511627776) :
    Calls Tryd.prog 66 #[.agg #[.slice c n cap], .int .i64 o] w fun e w' => e = .returned (.int .i64 (ctg o n G : Nat)) ∧ Chg nob w w' := by
  have KB := hik ((Chg.refl nob w).alloc (.cells #[.slice c n cap] 33))
  have x0 : World.cell? (w.alloc (.cells #[.slice c n cap] 33)) ⟨w.heap.size, 0, none⟩ = some (.slice c n cap) := by go_simp
  have hV := hik (hv.out.keep KB.out)
  go_enter Tryd.func66, Tryd.ntmps66
  go_wp2
  generalize w.alloc (.cells #[.slice c n cap] 33) = B at KB x0 hV ⊢
  go_loopw [5, 6] (fun v i W => ∃ k : Nat, k ≤ n ∧ i = .int .i64 k ∧ v = .int .i64 (ctg o k G : Nat) ∧ W = B) (fun _ i _ => n - (intOf i).toNat)
  case atStart => exact ⟨0, Nat.zero_le _, rfl, rfl, rfl⟩
  case round =>
    obtain ⟨k, hk, rfl, rfl, hW⟩ := hrel
    have hW := hW.symm
    subst hW
    by_cases hlt : k < n
    · obtain ⟨xb, xo, rfl, hxb, c0, c1, c2, c3⟩ := hV.out k hlt
      have hkn : ((k : Nat) : Int) < n := by omega
      have hcb := ctg_le o G k
      have HST := hik (ctg_s o k G)
      generalize (G k).1 = g0 at c0 HST
      clear c1 c2 c3
      generalize ctg o k G = C at hcb HST
      by_cases he : g0 = o
      · subst he
        rw [if_pos rfl] at HST
        go_wp2_with (go_at_call 94; refine (l01Bit_any _ _).mono ?_; rintro e w' ⟨rfl, hw⟩; have hw := hw.symm; subst hw)
        go_roundw
        case rel => exact ⟨k + 1, by omega, by go_num, by rw [HST.out]; simp <;> go_num, trivial⟩
        case measure => simp [intOf]; omega
      · rw [if_neg he] at HST
        have he' : (g0 == o) = false := by simpa using he
        go_wp2_with (go_at_call 94; refine (l01Bit_any _ _).mono ?_; rintro e w' ⟨rfl, hw⟩; have hw := hw.symm; subst hw)
        go_roundw
        case rel => exact ⟨k + 1, by omega, by go_num, by rw [HST.out]; simp [he] <;> go_num, trivial⟩
        case measure => simp [intOf]; omega
    · obtain rfl : k = n := by omega
      go_wp2
      go_ret
      exact ⟨rfl, KB.out⟩

set_option maxHeartbeats 4000000 in
theorem sCircuitOK_any (c : Option Addr) (n cap : Nat) (G : Nat → Gt) (w : World) (hv : Hid (GatV w c n G)) (hn : n ≤ 1099511627776) :
    Calls Tryd.prog 29 #[.agg #[.slice c n cap]] w fun e w' => e = .returned (.bool (crb n G)) ∧ Chg nob w w' := by
  have KB := hik ((Chg.refl nob w).alloc (.cells #[.slice c n cap] 33))
  have x0 : World.cell? (w.alloc (.cells #[.slice c n cap] 33)) ⟨w.heap.size, 0, none⟩ = some (.slice c n cap) := by go_simp
  have hin := l01In_any (n : Int) 1 15 (w.alloc (.cells #[.slice c n cap] 33))
  cases h1 : inW (n : Int) 1 15 with
  | false =>
    have h1' : ¬ (1 ≤ (n : Int) ∧ (n : Int) ≤ 15) := by simpa [inW] using h1
    have HC := hik (show crb n G = false by unfold crb; rw [decide_eq_false (by omega)]; rfl)
    rw [h1] at hin
    clear h1'
    go_enter Tryd.func29, Tryd.ntmps29
    go_wp2_with (go_at_call 65; refine hin.mono ?_; rintro e w' ⟨rfl, hw⟩; have hw := hw.symm; subst hw)
    go_ret
    exact ⟨ret_bool HC.out.symm, KB.out⟩
  | true =>
  have h1' : 1 ≤ (n : Int) ∧ (n : Int) ≤ 15 := by simpa [inW] using h1
  have hn15 : n ≤ 15 := by omega
  rw [h1] at hin
  have HC := hik (show crb n G = (gsb n G && decide (ctg 2 n G ≤ 7)) by unfold crb; rw [decide_eq_true (by omega)]; rfl)
  generalize crb n G = ans at HC ⊢
  clear h1 h1'
  have XB := hik x0
  go_enter Tryd.func29, Tryd.ntmps29
  go_wp2_with (go_at_call 65; refine hin.mono ?_; rintro e w' ⟨rfl, hw⟩; have hw := hw.symm; subst hw)
  clear x0 hin
  go_loopw [3] (fun i W => ∃ k : Nat, k ≤ n ∧ i = .int .i64 k ∧ Hid (gsb k G = true) ∧ Hid (Chg nob w W) ∧ Hid (W.cell? ⟨w.heap.size, 0, none⟩ = some (.slice c n cap))) (fun i _ => n - (intOf i).toNat)
  case atStart => exact ⟨0, Nat.zero_le _, rfl, hik rfl, KB, XB⟩
  case round =>
    clear KB XB
    obtain ⟨k, hk, rfl, GS, HK, XC⟩ := hrel
    rename World => wi
    have x0 := XC.out
    by_cases hlt : k < n
    · obtain ⟨xb, xo, rfl, hxb, c0, c1, c2, c3⟩ := (hv.out.keep HK.out) k hlt
      have hkn : ((k : Nat) : Int) < n := by omega
      have HST := hik (gsb_s k G)
      have hr := sGate_any (G k) k wi (by omega) (by omega)
      cases hg : gtb k (G k) with
      | false =>
        have HN := hik (gsb_no hlt hg)
        rw [hg] at hr
        go_wp2_with (go_at_call 51; refine hr.mono ?_; rintro e W1 ⟨rfl, k1⟩; have K1 := hik (HK.out.trans k1); clear k1)
        go_ret
        exact ⟨ret_bool (by rw [HC.out, HN.out]; rfl), K1.out⟩
      | true =>
        rw [hg] at hr
        rw [hg, GS.out] at HST
        go_wp2_with (go_at_call 51; refine hr.mono ?_; rintro e W1 ⟨rfl, k1⟩; have K1 := hik (HK.out.trans k1); have X1 := hik (k1.look x0); clear k1)
        go_roundw
        case rel => exact ⟨k + 1, by omega, by go_num, hik HST.out, K1, X1⟩
        case measure => simp [intOf]; omega
    · obtain rfl : k = n := by omega
      have hcb := ctg_le 2 G k
      have hct := sCount_any c k cap G 2 wi (hik (hv.out.keep HK.out)) hn
      generalize ctg 2 k G = C at HC hct hcb
      go_wp2_with (go_at_call 66; refine hct.mono ?_; rintro e W1 ⟨rfl, k1⟩; have K1 := hik (HK.out.trans k1); clear k1)
      go_ret
      exact ⟨ret_bool (by rw [HC.out, GS.out]; simp; omega), K1.out⟩
end Go.Proofs.YtgimmmmiodlepabDoor
