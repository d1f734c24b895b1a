/- Several texts in one: Gates and circuits: which are right, how many of a kind there are: the model's contracts. · Circuits that are drawn: contracts. Conditions: those of each theorem. -/
import Derived.Test.YtpndbkgjdnkmcaaDoorBzaa
import Derived.Test.YtpndbkgjdnkmcaaDoorBzac
import Derived.Test.YtpndbkgjdnkmcaaDoorBzad
import Derived.WalkKit
import Derived.Deep.DeepCutAuto
import Derived.Test.YtpndbkgjdnkmcaaDoorBzae
import Derived.Test.YtpndbkgjdnkmcaaDoorBzaj
import Derived.Test.YtpndbkgjdnkmcaaDoorBzas
import Derived.Deep.LoopGhost
import Derived.Deep.CutBlock
namespace Go.Proofs.YtpndbkgjdnkmcaaDoor
open Go.ChangeShapes Go.WideShapes Go.ChangeAt Go.RowKit
set_option linter.unusedVariables false
set_option maxRecDepth 100000
set_option linter.unusedSimpArgs false

set_option maxHeartbeats 1000000 in
theorem sUses_any (o : Int) (w : World) : Calls Tryd.prog 25 #[.int .i64 o] w fun e w' => e = .returned (.int .i64 (usg o)) ∧ w' = w := by
  have hin := l01In_any o 4 7 w
  cases h : inW o 4 7 with
  | true =>
    have H := hik (show usg o = 2 by have : 4 ≤ o ∧ o ≤ 7 := by simpa [inW] using h
                                     unfold usg; rw [if_pos this])
    rw [h] at hin
    go_enter Tryd.func25, Tryd.ntmps25
    go_wp2_with (go_at_call 39; refine hin.mono ?_; rintro e w' ⟨rfl, hw⟩; have hw := hw.symm; subst hw)
    go_ret
    exact ⟨ret_int H.out.symm, rfl⟩
  | false =>
    have h' : ¬ (4 ≤ o ∧ o ≤ 7) := by simpa [inW] using h
    rw [h] at hin
    by_cases h8 : o = 8
    · subst h8
      go_enter Tryd.func25, Tryd.ntmps25
      go_wp2_with (go_at_call 39; refine hin.mono ?_; rintro e w' ⟨rfl, hw⟩; have hw := hw.symm; subst hw)
      go_ret
      exact ⟨rfl, rfl⟩
    · have H := hik (show usg o = 0 by unfold usg; rw [if_neg h', if_neg h8])
      clear h'
      go_enter Tryd.func25, Tryd.ntmps25
      go_wp2_with (go_at_call 39; refine hin.mono ?_; rintro e w' ⟨rfl, hw⟩; have hw := hw.symm; subst hw)
      go_ret
      exact ⟨ret_int H.out.symm, rfl⟩

theorem gtb_two (m o a b k : Int) (h : 4 ≤ o ∧ o ≤ 7) : gtb m (o, a, b, k) = (inW a 0 (m - 1) && (inW b 0 (m - 1) && decide (k = 0))) := by
  have e : gtb m (o, a, b, k) = (ptb a true m && (ptb b true m && ptb k false 2130706433)) := by
    unfold gtb usg
    simp only [if_pos h]
    rw [decide_eq_true (show 1 ≤ o by omega), decide_eq_true (show o ≤ 8 by omega), decide_eq_false (show ¬ o = 3 by omega)]
    rfl
  rw [e, Bool.eq_iff_iff]
  simp [ptb, inW]
  omega
theorem gtb_bit (m a b k : Int) : gtb m (8, a, b, k) = (inW a 0 (m - 1) && (decide (b = 0) && decide (k = 0))) := by
  have e : gtb m (8, a, b, k) = (ptb a true m && (ptb b false m && ptb k false 2130706433)) := rfl
  rw [e, Bool.eq_iff_iff]
  simp [ptb, inW]
  omega
theorem gtb_con (m a b k : Int) : gtb m (3, a, b, k) = (decide (a = 0) && (decide (b = 0) && fok k)) := by
  have e : gtb m (3, a, b, k) = (ptb a false m && (ptb b false m && ptb k true 2130706433)) := rfl
  rw [e, Bool.eq_iff_iff]
  simp [ptb, fok]
  omega
theorem gtb_in (m o a b k : Int) (h : o = 1 ∨ o = 2) : gtb m (o, a, b, k) = (decide (a = 0) && (decide (b = 0) && decide (k = 0))) := by
  have e : gtb m (o, a, b, k) = (ptb a false m && (ptb b false m && ptb k false 2130706433)) := by rcases h with rfl | rfl <;> rfl
  rw [e, Bool.eq_iff_iff]
  simp [ptb]
  omega

set_option maxHeartbeats 8000000 in
theorem sGate_any (x : Gt) (m : Int) (w : World) (m0 : -1099511627776 ≤ m) (m1 : m ≤ 1099511627776) : Calls Tryd.prog 23 #[.agg #[.int .i64 x.1, .int .i64 x.2.1, .int .i64 x.2.2.1, .int .i64 x.2.2.2], .int .i64 m] w fun e w' => e = .returned (.bool (gtb m x)) ∧ Chg nob w w' := by
  obtain ⟨o, a, b, k⟩ := x
  have KB := hik ((Chg.refl nob w).alloc (.cells #[.int .i64 o, .int .i64 a, .int .i64 b, .int .i64 k] 23))
  by_cases ho : 1 ≤ o ∧ o ≤ 8
  · have hop : inW o 1 8 = true := decide_eq_true ho
    by_cases h2 : 4 ≤ o ∧ o ≤ 7
    · have HG := hik (gtb_two m o a b k h2)
      have hu : usg o = 2 := by unfold usg; rw [if_pos h2]
      have h3 : ¬ o = 3 := by omega
      generalize gtb m (o, a, b, k) = ans at HG ⊢
      clear h2 ho
      cases b1 : inW a 0 (m - 1) with
      | false =>
        go_enter Tryd.func23, Tryd.ntmps23
        go_wp2_with (first | (go_at_call 39; refine (l01In_any _ _ _ _).mono ?_; rintro e w' ⟨rfl, hw⟩; have hw := hw.symm; subst hw) | (go_at_call 25; refine (sUses_any _ _).mono ?_; rintro e w' ⟨rfl, hw⟩; have hw := hw.symm; subst hw) | (go_at_call 40; refine (sFieldOK_any _ _).mono ?_; rintro e w' ⟨rfl, hw⟩; have hw := hw.symm; subst hw))
        go_ret
        exact ⟨ret_bool (by rw [HG.out, b1]; rfl), KB.out⟩
      | true =>
      cases b2 : inW b 0 (m - 1) with
      | false =>
        go_enter Tryd.func23, Tryd.ntmps23
        go_wp2_with (first | (go_at_call 39; refine (l01In_any _ _ _ _).mono ?_; rintro e w' ⟨rfl, hw⟩; have hw := hw.symm; subst hw) | (go_at_call 25; refine (sUses_any _ _).mono ?_; rintro e w' ⟨rfl, hw⟩; have hw := hw.symm; subst hw) | (go_at_call 40; refine (sFieldOK_any _ _).mono ?_; rintro e w' ⟨rfl, hw⟩; have hw := hw.symm; subst hw))
        go_ret
        exact ⟨ret_bool (by rw [HG.out, b1, b2]; rfl), KB.out⟩
      | true =>
        go_enter Tryd.func23, Tryd.ntmps23
        go_wp2_with (first | (go_at_call 39; refine (l01In_any _ _ _ _).mono ?_; rintro e w' ⟨rfl, hw⟩; have hw := hw.symm; subst hw) | (go_at_call 25; refine (sUses_any _ _).mono ?_; rintro e w' ⟨rfl, hw⟩; have hw := hw.symm; subst hw) | (go_at_call 40; refine (sFieldOK_any _ _).mono ?_; rintro e w' ⟨rfl, hw⟩; have hw := hw.symm; subst hw))
        go_ret
        exact ⟨ret_bool (by rw [HG.out, b1, b2]; rfl), KB.out⟩
    · by_cases h8 : o = 8
      · subst h8
        have HG := hik (gtb_bit m a b k)
        have hu : usg 8 = 1 := rfl
        generalize gtb m (8, a, b, k) = ans at HG ⊢
        clear h2 ho
        cases b1 : inW a 0 (m - 1) with
        | false =>
          go_enter Tryd.func23, Tryd.ntmps23
          go_wp2_with (first | (go_at_call 39; refine (l01In_any _ _ _ _).mono ?_; rintro e w' ⟨rfl, hw⟩; have hw := hw.symm; subst hw) | (go_at_call 25; refine (sUses_any _ _).mono ?_; rintro e w' ⟨rfl, hw⟩; have hw := hw.symm; subst hw) | (go_at_call 40; refine (sFieldOK_any _ _).mono ?_; rintro e w' ⟨rfl, hw⟩; have hw := hw.symm; subst hw))
          go_ret
          exact ⟨ret_bool (by rw [HG.out, b1]; rfl), KB.out⟩
        | true =>
        by_cases b2 : b = 0
        · subst b2
          go_enter Tryd.func23, Tryd.ntmps23
          go_wp2_with (first | (go_at_call 39; refine (l01In_any _ _ _ _).mono ?_; rintro e w' ⟨rfl, hw⟩; have hw := hw.symm; subst hw) | (go_at_call 25; refine (sUses_any _ _).mono ?_; rintro e w' ⟨rfl, hw⟩; have hw := hw.symm; subst hw) | (go_at_call 40; refine (sFieldOK_any _ _).mono ?_; rintro e w' ⟨rfl, hw⟩; have hw := hw.symm; subst hw))
          go_ret
          exact ⟨ret_bool (by rw [HG.out, b1]; rfl), KB.out⟩
        · have b2' : (b != 0) = true := by simpa using b2
          go_enter Tryd.func23, Tryd.ntmps23
          go_wp2_with (first | (go_at_call 39; refine (l01In_any _ _ _ _).mono ?_; rintro e w' ⟨rfl, hw⟩; have hw := hw.symm; subst hw) | (go_at_call 25; refine (sUses_any _ _).mono ?_; rintro e w' ⟨rfl, hw⟩; have hw := hw.symm; subst hw) | (go_at_call 40; refine (sFieldOK_any _ _).mono ?_; rintro e w' ⟨rfl, hw⟩; have hw := hw.symm; subst hw))
          go_ret
          exact ⟨ret_bool (by rw [HG.out, b1, decide_eq_false b2]; rfl), KB.out⟩
      · have hu : usg o = 0 := by unfold usg; rw [if_neg h2, if_neg h8]
        by_cases h3 : o = 3
        · subst h3
          have HG := hik (gtb_con m a b k)
          generalize gtb m (3, a, b, k) = ans at HG ⊢
          clear h2 ho h8
          by_cases b1 : a = 0
          · subst b1
            by_cases b2 : b = 0
            · subst b2
              go_enter Tryd.func23, Tryd.ntmps23
              go_wp2_with (first | (go_at_call 39; refine (l01In_any _ _ _ _).mono ?_; rintro e w' ⟨rfl, hw⟩; have hw := hw.symm; subst hw) | (go_at_call 25; refine (sUses_any _ _).mono ?_; rintro e w' ⟨rfl, hw⟩; have hw := hw.symm; subst hw) | (go_at_call 40; refine (sFieldOK_any _ _).mono ?_; rintro e w' ⟨rfl, hw⟩; have hw := hw.symm; subst hw))
              go_ret
              exact ⟨ret_bool (by rw [HG.out]; rfl), KB.out⟩
            · have b2' : (b != 0) = true := by simpa using b2
              go_enter Tryd.func23, Tryd.ntmps23
              go_wp2_with (first | (go_at_call 39; refine (l01In_any _ _ _ _).mono ?_; rintro e w' ⟨rfl, hw⟩; have hw := hw.symm; subst hw) | (go_at_call 25; refine (sUses_any _ _).mono ?_; rintro e w' ⟨rfl, hw⟩; have hw := hw.symm; subst hw) | (go_at_call 40; refine (sFieldOK_any _ _).mono ?_; rintro e w' ⟨rfl, hw⟩; have hw := hw.symm; subst hw))
              go_ret
              exact ⟨ret_bool (by rw [HG.out, decide_eq_false b2]; rfl), KB.out⟩
          · have b1' : (a != 0) = true := by simpa using b1
            go_enter Tryd.func23, Tryd.ntmps23
            go_wp2_with (first | (go_at_call 39; refine (l01In_any _ _ _ _).mono ?_; rintro e w' ⟨rfl, hw⟩; have hw := hw.symm; subst hw) | (go_at_call 25; refine (sUses_any _ _).mono ?_; rintro e w' ⟨rfl, hw⟩; have hw := hw.symm; subst hw) | (go_at_call 40; refine (sFieldOK_any _ _).mono ?_; rintro e w' ⟨rfl, hw⟩; have hw := hw.symm; subst hw))
            go_ret
            exact ⟨ret_bool (by rw [HG.out, decide_eq_false b1]; rfl), KB.out⟩
        · have HG := hik (gtb_in m o a b k (by omega))
          generalize gtb m (o, a, b, k) = ans at HG ⊢
          clear h2 ho h8
          by_cases b1 : a = 0
          · subst b1
            by_cases b2 : b = 0
            · subst b2
              go_enter Tryd.func23, Tryd.ntmps23
              go_wp2_with (first | (go_at_call 39; refine (l01In_any _ _ _ _).mono ?_; rintro e w' ⟨rfl, hw⟩; have hw := hw.symm; subst hw) | (go_at_call 25; refine (sUses_any _ _).mono ?_; rintro e w' ⟨rfl, hw⟩; have hw := hw.symm; subst hw) | (go_at_call 40; refine (sFieldOK_any _ _).mono ?_; rintro e w' ⟨rfl, hw⟩; have hw := hw.symm; subst hw))
              go_ret
              exact ⟨ret_bool (by rw [HG.out]; rfl), KB.out⟩
            · have b2' : (b != 0) = true := by simpa using b2
              go_enter Tryd.func23, Tryd.ntmps23
              go_wp2_with (first | (go_at_call 39; refine (l01In_any _ _ _ _).mono ?_; rintro e w' ⟨rfl, hw⟩; have hw := hw.symm; subst hw) | (go_at_call 25; refine (sUses_any _ _).mono ?_; rintro e w' ⟨rfl, hw⟩; have hw := hw.symm; subst hw) | (go_at_call 40; refine (sFieldOK_any _ _).mono ?_; rintro e w' ⟨rfl, hw⟩; have hw := hw.symm; subst hw))
              go_ret
              exact ⟨ret_bool (by rw [HG.out, decide_eq_false b2]; rfl), KB.out⟩
          · have b1' : (a != 0) = true := by simpa using b1
            go_enter Tryd.func23, Tryd.ntmps23
            go_wp2_with (first | (go_at_call 39; refine (l01In_any _ _ _ _).mono ?_; rintro e w' ⟨rfl, hw⟩; have hw := hw.symm; subst hw) | (go_at_call 25; refine (sUses_any _ _).mono ?_; rintro e w' ⟨rfl, hw⟩; have hw := hw.symm; subst hw) | (go_at_call 40; refine (sFieldOK_any _ _).mono ?_; rintro e w' ⟨rfl, hw⟩; have hw := hw.symm; subst hw))
            go_ret
            exact ⟨ret_bool (by rw [HG.out, decide_eq_false b1]; rfl), KB.out⟩
  · have hop : inW o 1 8 = false := decide_eq_false ho
    have HG := hik (show gtb m (o, a, b, k) = false by unfold gtb; rw [show (decide (1 ≤ (o, a, b, k).1) && decide ((o, a, b, k).1 ≤ 8)) = false by simp; omega]; rfl)
    clear ho
    go_enter Tryd.func23, Tryd.ntmps23
    go_wp2_with (first | (go_at_call 39; refine (l01In_any _ _ _ _).mono ?_; rintro e w' ⟨rfl, hw⟩; have hw := hw.symm; subst hw) | (go_at_call 25; refine (sUses_any _ _).mono ?_; rintro e w' ⟨rfl, hw⟩; have hw := hw.symm; subst hw) | (go_at_call 40; refine (sFieldOK_any _ _).mono ?_; rintro e w' ⟨rfl, hw⟩; have hw := hw.symm; subst hw))
    go_ret
    exact ⟨ret_bool HG.out.symm, KB.out⟩

set_option maxHeartbeats 1000000 in
theorem l01Bit_any (b : Bool) (w : World) : Calls Tryd.prog 29 #[.bool b] w fun e w' => e = .returned (.int .i64 (if b then 1 else 0)) ∧ w' = w := by
  cases b with
  | true =>
    go_enter Tryd.func29, Tryd.ntmps29
    go_wp2
    go_ret
    exact ⟨rfl, rfl⟩
  | false =>
    go_enter Tryd.func29, Tryd.ntmps29
    go_wp2
    go_ret
    exact ⟨rfl, rfl⟩

set_option maxHeartbeats 4000000 in
theorem sCount_any (c : Option Addr) (n cap : Nat) (G : Nat → Gt) (o : Int) (w : World) (hv : Hid (GatV w c n G)) (hn : n ≤ 1099511627776) :
    Calls Tryd.prog 36 #[.agg #[.slice c n cap], .int .i64 o] w fun e w' => e = .returned (.int .i64 (ctg o n G : Nat)) ∧ Chg nob w w' := by
  have KB := hik ((Chg.refl nob w).alloc (.cells #[.slice c n cap] 31))
  have x0 : World.cell? (w.alloc (.cells #[.slice c n cap] 31)) ⟨w.heap.size, 0, none⟩ = some (.slice c n cap) := by go_simp
  have hV := hik (hv.out.keep KB.out)
  go_enter Tryd.func36, Tryd.ntmps36
  go_wp2
  generalize w.alloc (.cells #[.slice c n cap] 31) = B at KB x0 hV ⊢
  go_loopw [5, 6] (fun v i W => ∃ k : Nat, k ≤ n ∧ i = .int .i64 k ∧ v = .int .i64 (ctg o k G : Nat) ∧ W = B) (fun _ i _ => n - (intOf i).toNat)
  case atStart => exact ⟨0, Nat.zero_le _, rfl, rfl, rfl⟩
  case round =>
    obtain ⟨k, hk, rfl, rfl, hW⟩ := hrel
    have hW := hW.symm
    subst hW
    by_cases hlt : k < n
    · obtain ⟨xb, xo, rfl, hxb, c0, c1, c2, c3⟩ := hV.out k hlt
      have hkn : ((k : Nat) : Int) < n := by omega
      have hcb := ctg_le o G k
      have HST := hik (ctg_s o k G)
      generalize (G k).1 = g0 at c0 HST
      clear c1 c2 c3
      generalize ctg o k G = C at hcb HST
      by_cases he : g0 = o
      · subst he
        rw [if_pos rfl] at HST
        go_wp2_with (go_at_call 29; refine (l01Bit_any _ _).mono ?_; rintro e w' ⟨rfl, hw⟩; have hw := hw.symm; subst hw)
        go_roundw
        case rel => exact ⟨k + 1, by omega, by go_num, by rw [HST.out]; simp <;> go_num, trivial⟩
        case measure => simp [intOf]; omega
      · rw [if_neg he] at HST
        have he' : (g0 == o) = false := by simpa using he
        go_wp2_with (go_at_call 29; refine (l01Bit_any _ _).mono ?_; rintro e w' ⟨rfl, hw⟩; have hw := hw.symm; subst hw)
        go_roundw
        case rel => exact ⟨k + 1, by omega, by go_num, by rw [HST.out]; simp [he] <;> go_num, trivial⟩
        case measure => simp [intOf]; omega
    · obtain rfl : k = n := by omega
      go_wp2
      go_ret
      exact ⟨rfl, KB.out⟩


end Go.Proofs.YtpndbkgjdnkmcaaDoor

namespace Go.Proofs.YtpndbkgjdnkmcaaDoor
open Go.ChangeShapes Go.WideShapes Go.ChangeAt Go.RowKit
set_option linter.unusedVariables false
set_option maxRecDepth 100000
set_option linter.unusedSimpArgs false

/-- Gates that are being drawn: right, at most three of them public. -/
def Gin (l : List Gt) : Prop := (∀ i, i < l.length → gtb i (gln l i) = true) ∧ ctg 2 l.length (gln l) ≤ 3
theorem gln_app (l : List Gt) (g : Gt) : (∀ i, i < l.length → gln (l ++ [g]) i = gln l i) ∧ gln (l ++ [g]) l.length = g := by
  unfold gln
  refine ⟨fun i hi => ?_, ?_⟩
  · simp [List.getD_eq_getElem?_getD, List.getElem?_append_left hi]
  · simp [List.getD_eq_getElem?_getD]
theorem ctg_same (o : Int) {G H : Nat → Gt} : ∀ n, (∀ i, i < n → G i = H i) → ctg o n G = ctg o n H
  | 0, _ => rfl
  | n + 1, h => by rw [ctg_s, ctg_s, ctg_same o n (fun i hi => h i (by omega)), h n (by omega)]
theorem Gin.put {l : List Gt} (h : Gin l) {g : Gt} (hg : gtb l.length g = true) (hc : g.1 = 2 → ctg 2 l.length (gln l) ≠ 3) : Gin (l ++ [g]) := by
  obtain ⟨a, e⟩ := gln_app l g
  refine ⟨fun i hi => ?_, ?_⟩
  · rw [List.length_append, List.length_singleton] at hi
    by_cases q : i < l.length
    · rw [a i q]; exact h.1 i q
    · obtain rfl : i = l.length := by omega
      rw [e]; exact hg
  · rw [List.length_append, List.length_singleton, ctg_s, ctg_same 2 l.length a, e]
    have := h.2
    split
    · rename_i q; have := hc q; omega
    · omega

/-- One of the numbers below N, N at least 1. -/
theorem next1_any (N : Int) (n b : Nat) (w : World) (h : Src n w b) (hn : n ≤ 999999999000) (N1 : 1 ≤ N) (N2 : N ≤ 256) :
    Calls Tryd.prog 34 #[.pointer (some ⟨b, 0, none⟩), .int .i64 N] w fun e w' => DrawnC 0 (N - 1) (n + 3) b w e w' := by
  by_cases q : N = 1
  · subst q
    have H := hik h
    clear h
    go_enter Tryd.func34, Tryd.ntmps34
    go_wp2
    go_ret
    exact ⟨0, rfl, by omega, by omega, H.out.mono (by omega), Chg.refl _ _⟩
  · exact nextC_any N n b w h hn (by omega) (by omega)

/-- The gates so far, the box of their circuit, the place of the answer, the source. -/
structure CtD (w : World) (b gc n : Nat) (l : List Gt) (v : Value) (W : World) : Prop where
  gg : GGr W w.heap.size v l
  cr : W.rowIs gc 31 1 (fun _ => v)
  rr : W.rowIs w.heap.size 31 1 (fun _ => .slice none 0 0)
  src : Src n W b
  chg : Chg (fun i => i = b) w W
  lg : w.heap.size < gc
  lb : b < w.heap.size
theorem CtD.draw {w W W' : World} {b gc n n' : Nat} {l : List Gt} {v : Value} (h : CtD w b gc n l v W) (hs : Src n' W' b) (k : Chg (fun i => i = b) W W') : CtD w b gc n' l v W' :=
  ⟨h.gg.chg9 k (fun i hi e => by have e : i = b := e; have := h.lb; omega), rowIs_chg h.cr k (fun e => by have e : gc = b := e; have := h.lg; have := h.lb; omega),
    rowIs_chg h.rr k (fun e => by have e : w.heap.size = b := e; have := h.lb; omega), hs, h.chg.trans k, h.lg, h.lb⟩
theorem CtD.keep {w W W' : World} {b gc n : Nat} {l : List Gt} {v : Value} (h : CtD w b gc n l v W) (k : Chg nob W W') : CtD w b gc n l v W' := h.draw (h.src.keep k) k.wide
/-- What a call or a store does to one new block only. -/
theorem CtD.put {w W W' : World} {b gc gb n : Nat} {l : List Gt} {v : Value} (h : CtD w b gc n l v W) (k : Chg (fun i => i = gb) W W') (l2 : w.heap.size < gb) (ne : gb ≠ gc) (no : v.ownBlock ≠ some gb) : CtD w b gc n l v W' :=
  ⟨h.gg.chgx k (fun i hi e => no (by rw [hi]; exact congrArg some e)), rowIs_chg h.cr k (fun e => ne (show gc = gb from e).symm), rowIs_chg h.rr k (fun e => by have e : w.heap.size = gb := e; omega),
    h.src.chg k (fun i hi e => by have e : i = gb := e; have := h.lb; omega), ⟨k.os.trans h.chg.os, k.tape.trans h.chg.tape, k.output.trans h.chg.output, Nat.le_trans h.chg.size k.size, fun i hi hp => (k.block i (Nat.lt_of_lt_of_le hi h.chg.size) (fun q => by have q : i = gb := q; omega)).trans (h.chg.block i hi hp)⟩, h.lg, h.lb⟩
theorem CtD.start {w : World} {b n : Nat} (h : Src n w b) : CtD w b (w.heap.size + 1 + 1) n [] (.slice (some ⟨w.heap.size + 1, 0, none⟩) 0 0) (((w.alloc (.cells #[.slice none 0 0] 31)).alloc (.cells #[] 23)).alloc (.cells #[.slice (some ⟨w.heap.size + 1, 0, none⟩) 0 0] 31)) := by
  have hb := h.lt
  have k1 := (Chg.refl nob w).alloc (.cells #[.slice none 0 0] 31)
  have s1 : (w.alloc (.cells #[.slice none 0 0] 31)).heap.size = w.heap.size + 1 := by simp
  have r1 := rowN_new w 1 #[.slice none 0 0] 31 rfl
  generalize w.alloc (.cells #[.slice none 0 0] 31) = W1 at k1 s1 r1 ⊢
  have g2 := GGr.fresh W1 w.heap.size (by omega)
  rw [s1] at g2
  have k2 := (Chg.refl nob W1).alloc (.cells #[] 23)
  have s2 : (W1.alloc (.cells #[] 23)).heap.size = w.heap.size + 1 + 1 := by simp [s1]
  generalize W1.alloc (.cells #[] 23) = W2 at g2 k2 s2 ⊢
  have k3 := (Chg.refl nob W2).alloc (.cells #[.slice (some ⟨w.heap.size + 1, 0, none⟩) 0 0] 31)
  have r3 := rowN_new W2 1 #[.slice (some ⟨w.heap.size + 1, 0, none⟩) 0 0] 31 rfl
  rw [s2] at r3
  generalize W2.alloc (.cells #[.slice (some ⟨w.heap.size + 1, 0, none⟩) 0 0] 31) = W3 at k3 r3 ⊢
  exact ⟨g2.keep k3, r3.congr (fun i hi => by obtain rfl : i = 0 := by omega
                                              rfl), (rowIs_keep r1 (k2.trans k3)).congr (fun i hi => by obtain rfl : i = 0 := by omega
                                                                                                        rfl), h.keep ((k1.trans k2).trans k3), ((k1.trans k2).trans k3).wide, by omega, hb⟩
/-- With a gate's box. -/
structure CtG (w : World) (b gc gb n : Nat) (l : List Gt) (v : Value) (g : Gt) (W : World) : Prop where
  d : CtD w b gc n l v W
  gr : W.rowIs gb 23 4 (pv4 (.int .i64 g.1) (.int .i64 g.2.1) (.int .i64 g.2.2.1) (.int .i64 g.2.2.2))
  l2 : w.heap.size < gb
  ne : gb ≠ gc
  no : v.ownBlock ≠ some gb
theorem CtG.draw {w W W' : World} {b gc gb n n' : Nat} {l : List Gt} {v : Value} {g : Gt} (h : CtG w b gc gb n l v g W) (hs : Src n' W' b) (k : Chg (fun i => i = b) W W') : CtG w b gc gb n' l v g W' :=
  ⟨h.d.draw hs k, rowIs_chg h.gr k (fun e => by have e : gb = b := e; have := h.l2; have := h.d.lb; omega), h.l2, h.ne, h.no⟩
theorem CtG.keep {w W W' : World} {b gc gb n : Nat} {l : List Gt} {v : Value} {g : Gt} (h : CtG w b gc gb n l v g W) (k : Chg nob W W') : CtG w b gc gb n l v g W' :=
  h.draw (h.d.src.keep k) k.wide
theorem CtG.new {w W : World} {b gc n : Nat} {l : List Gt} {v : Value} (h : CtD w b gc n l v W) (g : Gt) : CtG w b gc W.heap.size n l v g (W.alloc (.cells #[.int .i64 g.1, .int .i64 g.2.1, .int .i64 g.2.2.1, .int .i64 g.2.2.2] 23)) := by
  have k1 := (Chg.refl nob W).alloc (.cells #[.int .i64 g.1, .int .i64 g.2.1, .int .i64 g.2.2.1, .int .i64 g.2.2.2] 23)
  refine ⟨h.keep k1, row4_new W _ _ _ _ _, ?_, ?_, ?_⟩
  · have := h.cr.lt; have := h.lg; omega
  · have := h.cr.lt; omega
  · intro e
    have := (h.gg.1.lt _ e).2
    omega
theorem CtG.set {w W : World} {b gc gb n : Nat} {l : List Gt} {v : Value} {g : Gt} (h : CtG w b gc gb n l v g W) (j : Nat) (g' : Gt) (u : Int)
    (hj : ∀ i, i < 4 → (if i = j then Value.int .i64 u else pv4 (.int .i64 g.1) (.int .i64 g.2.1) (.int .i64 g.2.2.1) (.int .i64 g.2.2.2) i) = pv4 (.int .i64 g'.1) (.int .i64 g'.2.1) (.int .i64 g'.2.2.1) (.int .i64 g'.2.2.2) i) :
    CtG w b gc gb n l v g' (W.setCell ⟨gb, j, none⟩ (.int .i64 u)) := by
  have k : Chg (fun i => i = gb) W (W.setCell ⟨gb, j, none⟩ (.int .i64 u)) := (Chg.refl (fun i => i = gb) W).setCell (p := ⟨gb, j, none⟩) (fun _ => rfl) (.int .i64 u)
  exact ⟨h.d.put k h.l2 h.ne h.no, (h.gr.set j (.int .i64 u)).congr hj, h.l2, h.ne, h.no⟩

theorem CtD.mono {w W : World} {b gc n m : Nat} {l : List Gt} {v : Value} (h : CtD w b gc n l v W) (hm : n ≤ m) : CtD w b gc m l v W := ⟨h.gg, h.cr, h.rr, h.src.mono hm, h.chg, h.lg, h.lb⟩
theorem CtG.mono {w W : World} {b gc gb n m : Nat} {l : List Gt} {v : Value} {g : Gt} (h : CtG w b gc gb n l v g W) (hm : n ≤ m) : CtG w b gc gb m l v g W := ⟨h.d.mono hm, h.gr, h.l2, h.ne, h.no⟩
theorem CtG.cells {w W : World} {b gc gb n : Nat} {l : List Gt} {v : Value} {g : Gt} (h : CtG w b gc gb n l v g W) : W.cell? ⟨gb, 0, none⟩ = some (.int .i64 g.1) ∧ W.cell? ⟨gb, 1, none⟩ = some (.int .i64 g.2.1) ∧ W.cell? ⟨gb, 2, none⟩ = some (.int .i64 g.2.2.1) ∧ W.cell? ⟨gb, 3, none⟩ = some (.int .i64 g.2.2.2) ∧
    W.frozen? ⟨gb, 0, none⟩ = false ∧ W.frozen? ⟨gb, 1, none⟩ = false ∧ W.frozen? ⟨gb, 2, none⟩ = false ∧ W.frozen? ⟨gb, 3, none⟩ = false :=
  ⟨h.gr.cell (i := 0) (by omega), h.gr.cell (i := 1) (by omega), h.gr.cell (i := 2) (by omega), h.gr.cell (i := 3) (by omega), h.gr.frozen 0, h.gr.frozen 1, h.gr.frozen 2, h.gr.frozen 3⟩
theorem CtG.op {w W : World} {b gc gb n : Nat} {l : List Gt} {v : Value} {o x y z : Int} (h : CtG w b gc gb n l v (o, x, y, z) W) (u : Int) : CtG w b gc gb n l v (u, x, y, z) (W.setCell ⟨gb, 0, none⟩ (.int .i64 u)) :=
  h.set 0 _ u (fun i hi => by rcases (show i = 0 ∨ i = 1 ∨ i = 2 ∨ i = 3 by omega) with rfl | rfl | rfl | rfl <;> rfl)
theorem CtG.fa {w W : World} {b gc gb n : Nat} {l : List Gt} {v : Value} {o x y z : Int} (h : CtG w b gc gb n l v (o, x, y, z) W) (u : Int) : CtG w b gc gb n l v (o, u, y, z) (W.setCell ⟨gb, 1, none⟩ (.int .i64 u)) :=
  h.set 1 _ u (fun i hi => by rcases (show i = 0 ∨ i = 1 ∨ i = 2 ∨ i = 3 by omega) with rfl | rfl | rfl | rfl <;> rfl)
theorem CtG.fb {w W : World} {b gc gb n : Nat} {l : List Gt} {v : Value} {o x y z : Int} (h : CtG w b gc gb n l v (o, x, y, z) W) (u : Int) : CtG w b gc gb n l v (o, x, u, z) (W.setCell ⟨gb, 2, none⟩ (.int .i64 u)) :=
  h.set 2 _ u (fun i hi => by rcases (show i = 0 ∨ i = 1 ∨ i = 2 ∨ i = 3 by omega) with rfl | rfl | rfl | rfl <;> rfl)
theorem CtG.fk {w W : World} {b gc gb n : Nat} {l : List Gt} {v : Value} {o x y z : Int} (h : CtG w b gc gb n l v (o, x, y, z) W) (u : Int) : CtG w b gc gb n l v (o, x, y, u) (W.setCell ⟨gb, 3, none⟩ (.int .i64 u)) :=
  h.set 3 _ u (fun i hi => by rcases (show i = 0 ∨ i = 1 ∨ i = 2 ∨ i = 3 by omega) with rfl | rfl | rfl | rfl <;> rfl)
theorem usg_of (o : Int) : usg o = 2 ∨ usg o = 1 ∨ usg o = 0 := by unfold usg; split <;> (try split) <;> omega
theorem CtD.grow {w W W' : World} {b gc n n' : Nat} {l l' : List Gt} {v v' : Value} (h : CtD w b gc n l v W) (hg : GGr W' w.heap.size v' l') (k : Chg (fun i => v.ownBlock = some i) W W') (hn : n ≤ n') : CtD w b gc n' l' v' (W'.setCell ⟨gc, 0, none⟩ v') := by
  have no := h.gg.off h.cr (by decide)
  have nr := h.gg.off h.rr (by decide)
  have c1 := rowIs_chg h.cr k no
  have r1 := rowIs_chg h.rr k nr
  have no' := hg.off c1 (by decide)
  have ks : Chg (fun i => i = gc) W' (W'.setCell ⟨gc, 0, none⟩ v') := (Chg.refl (fun i => i = gc) W').setCell (p := ⟨gc, 0, none⟩) (fun _ => rfl) v'
  have lb := h.lb
  have lg := h.lg
  have c2 := c1.set 0 v'
  have c3 : (W'.setCell ⟨gc, 0, none⟩ v').rowIs gc 31 1 (fun _ => v') := c2.congr (fun i hi => by
    obtain rfl : i = 0 := by omega
    rfl)
  refine ⟨hg.chgx ks (fun i e q => no' (by rw [e]; exact congrArg some q)), c3, rowIs_chg r1 ks (fun e => by have e : w.heap.size = gc := e; omega),
    ((h.src.chg k (fun i hi q => by have := h.gg.at0 i q; omega)).chg ks (fun i hi q => by have q : i = gc := q; rw [q] at hi; omega)).mono hn, ?_, lg, lb⟩
  refine ⟨ks.os.trans (k.os.trans h.chg.os), ks.tape.trans (k.tape.trans h.chg.tape), ks.output.trans (k.output.trans h.chg.output), Nat.le_trans h.chg.size (Nat.le_trans k.size ks.size), fun i hi hp => ?_⟩
  have e1 := h.chg.block i hi hp
  have e2 := k.block i (Nat.lt_of_lt_of_le hi h.chg.size) (fun q => by have := h.gg.at0 i q; omega)
  have e3 := ks.block i (Nat.lt_of_lt_of_le hi (Nat.le_trans h.chg.size k.size)) (fun q => by have q : i = gc := q; omega)
  exact e3.trans (e2.trans e1)
theorem newg (w : World) (g : Gt) (t : TypeId) (H : Nat) (hH : w.heap.size = H) : ∀ j u, (gfl [g])[j]? = some u → (w.alloc (.cells #[.int .i64 g.1, .int .i64 g.2.1, .int .i64 g.2.2.1, .int .i64 g.2.2.2] t)).cell? (Addr.add ⟨H, 0, none⟩ j) = some u := by
  intro j u hj
  rw [Go.WideShapes.add_plain, Nat.zero_add, ← hH]
  have hj4 : j < 4 := (List.getElem?_eq_some_iff.1 hj).1
  have r := (row4_new w (.int .i64 g.1) (.int .i64 g.2.1) (.int .i64 g.2.2.1) (.int .i64 g.2.2.2) t).cell (i := j) hj4
  rw [r]
  rcases (show j = 0 ∨ j = 1 ∨ j = 2 ∨ j = 3 by omega) with rfl | rfl | rfl | rfl <;> exact hj
/-- A drawn circuit: right gates, one to nine of them. -/
def DrawnGs (n b : Nat) (w : World) (e : Ending) (w' : World) : Prop := ∃ (l : List Gt) (g cap : Nat), e = .returned (.agg #[.slice (some ⟨g, 0, none⟩) l.length cap]) ∧ w.heap.size ≤ g ∧ l.length ≤ cap ∧ GtL w' g l ∧ Gin l ∧ 1 ≤ l.length ∧ l.length ≤ 9 ∧ Src n w' b ∧ Chg (fun k => k = b) w w'

set_option maxHeartbeats 4000000 in
theorem circuit_any (n b : Nat) (w : World) (h : Src n w b) (hn : n ≤ 999999000000) :
    Calls Tryd.prog 20 #[.pointer (some ⟨b, 0, none⟩)] w fun e w' => DrawnGs (n + 600) b w e w' := by
  have HD := hik (CtD.start h)
  clear h
  go_enter Tryd.func20, Tryd.ntmps20
  go_upto_region 2 with fail
  generalize (((w.alloc (.cells #[.slice none 0 0] 31)).alloc (.cells #[] 23)).alloc (.cells #[.slice (some ⟨w.heap.size + 1, 0, none⟩) 0 0] 31)) = W0 at HD ⊢
  generalize hgc : w.heap.size + 1 + 1 = gc at HD ⊢
  clear hgc
  generalize hv : (Value.slice (some ⟨w.heap.size + 1, 0, none⟩) 0 0) = v at HD ⊢
  clear hv
  go_wp2_with fail
  refine (nextC_any 9 n b _ HD.out.src (by omega) (by omega) (by omega)).mono ?_
  rintro e W1 ⟨r, rfl, r0, r1, hS, hB⟩
  obtain ⟨M, hM⟩ : ∃ M : Nat, 1 + r = (M : Int) := ⟨(1 + r).toNat, by omega⟩
  have hM9 : 1 ≤ M ∧ M ≤ 9 := by omega
  have HD1 := hik (HD.out.draw hS hB)
  clear hS hB HD
  have hM2 : wrap64 (1 + r) = (M : Int) := by rw [hM]; unfold wrap64; omega
  go_wp2
  try simp only [hM, hM2]
  clear hM hM2 r0 r1
  go_loopg [5] M (fun g i W => ∃ (l : List Gt) (v : Value), l.length ≤ M ∧ g = M - l.length ∧ i = .int .i64 l.length ∧ Hid (Gin l) ∧ Hid (CtD w b gc (n + 3 + 60 * l.length) l v W))
  case atStart => exact ⟨[], v, Nat.zero_le _, rfl, rfl, hik ⟨fun i hi => absurd hi (Nat.not_lt_zero _), Nat.zero_le _⟩, HD1⟩
  case round =>
    clear HD1
    obtain ⟨l, v, hl, rfl, rfl, HG, HD⟩ := hrel
    by_cases hlt : l.length < M
    · have hlm : ((l.length : Nat) : Int) < (M : Int) := by omega
      obtain ⟨k, hk⟩ : ∃ k, k = l.length := ⟨_, rfl⟩
      go_upto_region 6 with fail
      go_wp2_with (first | (go_at_call 34; refine (nextC_any 8 _ b _ HD.out.src (by omega) (by omega) (by omega)).mono ?_) | fail)
      rintro e W2 ⟨r, rfl, r0, r1, hS, hB⟩
      have hw1 : wrap64 (1 + r) = 1 + r := by unfold wrap64; omega
      have CG := hik (CtG.new (HD.out.draw hS hB) (1 + r, 0, 0, 0))
      obtain ⟨o, ho⟩ : ∃ o : Int, 1 + r = o := ⟨_, rfl⟩
      rw [ho] at CG hw1
      have o1 : 1 ≤ o ∧ o ≤ 8 := by omega
      clear hS hB HD
      go_upto_region 7 with fail
      try simp only [ho, hw1]
      clear hw1 ho r0 r1
      generalize hgb : W2.heap.size = gb at CG ⊢
      clear hgb
      generalize hWW : W2.alloc (.cells #[.int .i64 o, .int .i64 0, .int .i64 0, .int .i64 0] 23) = W3 at CG ⊢
      clear hWW
      obtain ⟨A, hA⟩ : ∃ A, A = n + 3 + 60 * l.length := ⟨_, rfl⟩
      rw [← hA] at CG
      have hA9 : A ≤ 999999002000 := by omega
      clear hk k
      go_cut [26] (fun c W => ∃ β : Bool, c = .bool β ∧ (l.length = 0 → β = true) ∧ Hid (CtG w b gc gb (A + 6) l v (o, 0, 0, 0) W))
      case first =>
        by_cases h0 : l.length = 0
        · have h0' : ((l.length : Nat) : Int) = 0 := by omega
          have h0b : (((l.length : Nat) : Int) == 0) = true := beq_iff_eq.2 h0'
          go_wp2
          go_meet
          exact ⟨true, rfl, fun _ => rfl, hik (CG.out.mono (by omega))⟩
        · have h0' : ¬ ((l.length : Nat) : Int) = 0 := by omega
          have h0b : (((l.length : Nat) : Int) == 0) = false := beq_eq_false_iff_ne.2 h0'
          go_wp2_with fail
          refine (chance_any 3 _ b _ (hik CG.out.d.src) (by omega) (by omega) (by omega)).mono ?_
          rintro e W4 ⟨β, rfl, hS, hB⟩
          have C4 := hik (CG.out.draw hS hB)
          clear hS hB CG
          go_wp2
          go_meet
          exact ⟨β, rfl, fun e => absurd e h0, hik (C4.out.mono (by omega))⟩
      case rest =>
        clear CG
        obtain ⟨β, rfl, hβ, CG⟩ := hcut
        go_upto_if 26 with fail
        go_cut [] (fun W => ∃ o : Int, (1 ≤ o ∧ o ≤ 8) ∧ (l.length = 0 → o ≤ 3) ∧ Hid (CtG w b gc gb (A + 9) l v (o, 0, 0, 0) W))
        case first =>
          cases β with
          | false =>
            go_wp2
            go_meet
            exact ⟨o, o1, fun e => absurd (hβ e) (by decide), hik (CG.out.mono (by omega))⟩
          | true =>
            go_wp2_with fail
            refine (nextC_any 3 _ b _ CG.out.d.src (by omega) (by omega) (by omega)).mono ?_
            rintro e W4 ⟨r, rfl, r0, r1, hS, hB⟩
            have hw1 : wrap64 (1 + r) = 1 + r := by unfold wrap64; omega
            have C4 := hik (CG.out.draw hS hB)
            clear hS hB CG
            obtain ⟨c0, _, _, _, f0, _⟩ := C4.out.cells
            go_wp2
            try simp only [hw1]
            go_meet
            exact ⟨1 + r, by omega, fun _ => by omega, hik ((C4.out.op (1 + r)).mono (by omega))⟩
        case rest =>
          clear CG o1 hβ
          obtain ⟨o, o1, o3, CG⟩ := hcut
          go_upto_region 9 with fail
          go_cut [38] (fun c W => ∃ γ : Bool, c = .bool γ ∧ (γ = false → o = 2 → ctg 2 l.length (gln l) ≠ 3) ∧ Hid (CtG w b gc gb (A + 9) l v (o, 0, 0, 0) W))
          case first =>
            obtain ⟨c0, _, _, _, f0, _⟩ := CG.out.cells
            by_cases h2 : o = 2
            · subst h2
              have x0 := CG.out.d.cr.cell (i := 0) (by omega)
              obtain ⟨g, cap, rfl, h91, h92, h93, h94⟩ := CG.out.d.gg.shape
              have HC := sCount_any (some ⟨g, 0, none⟩) l.length cap (gln l) 2 wc (hik h94.gat) (by omega)
              clear h91 h92 h93 h94
              go_wp2_with fail
              refine HC.mono ?_
              rintro e W4 ⟨rfl, kk⟩
              have C4 := hik (CG.out.keep kk)
              clear CG kk HC c0 f0 x0
              by_cases h3 : ((ctg 2 l.length (gln l) : Nat) : Int) = 3
              · go_wp2
                go_meet
                exact ⟨true, by simp [h3], fun e => (by cases e), C4⟩
              · go_wp2
                go_meet
                exact ⟨false, by simp [h3], fun _ _ => by omega, C4⟩
            · have h2b : (o == 2) = false := beq_eq_false_iff_ne.2 h2
              go_wp2
              go_meet
              exact ⟨false, rfl, fun _ e => absurd e h2, CG⟩
          case rest =>
            clear CG
            obtain ⟨γ, rfl, hγ, CG⟩ := hcut
            go_upto_if 38 with fail
            go_cut [] (fun W => ∃ o : Int, (1 ≤ o ∧ o ≤ 8) ∧ (l.length = 0 → o ≤ 3) ∧ (o = 2 → ctg 2 l.length (gln l) ≠ 3) ∧ Hid (CtG w b gc gb (A + 9) l v (o, 0, 0, 0) W))
            case first =>
              cases γ with
              | false =>
                go_wp2
                go_meet
                exact ⟨o, o1, o3, hγ trivial, CG⟩
              | true =>
                obtain ⟨c0, _, _, _, f0, _⟩ := CG.out.cells
                go_wp2
                go_meet
                exact ⟨1, by omega, fun _ => by omega, fun e => absurd e (by omega), hik (CG.out.op 1)⟩
            case rest =>
              clear CG o1 hγ o3
              obtain ⟨o, o1, o3, o2, CG⟩ := hcut
              obtain ⟨u, hu⟩ : ∃ u, u = usg o := ⟨_, rfl⟩
              have hu2 : u = 2 ∨ u = 1 ∨ u = 0 := by rw [hu]; exact usg_of o
              have hk1 : 0 < u → 1 ≤ l.length := by
                intro q
                rcases Nat.eq_zero_or_pos l.length with e | e
                · have := o3 e
                  rw [hu] at q
                  unfold usg at q
                  rw [if_neg (by omega), if_neg (by omega)] at q
                  omega
                · exact e
              obtain ⟨c0, c1, c2, c3, f0, f1, f2, f3⟩ := CG.out.cells
              have HU := hik (sUses_any o wc)
              rw [← hu] at HU
              go_upto_block 2 with (refine HU.out.mono ?_; rintro e W4 ⟨rfl, kk⟩; subst kk)
              clear HU c0 c1 c2 c3 f0 f1 f2 f3
              go_cut [] (fun W => ∃ x y : Int, (0 ≤ x ∧ x < if 0 < u then (l.length : Int) else 1) ∧ (0 ≤ y ∧ y < if 1 < u then (l.length : Int) else 1) ∧ Hid (CtG w b gc gb (A + 18) l v (o, x, y, 0) W))
              case first =>
                obtain ⟨c0, c1, c2, c3, f0, f1, f2, f3⟩ := CG.out.cells
                rcases hu2 with rfl | rfl | rfl
                · have hk := hk1 (by omega)
                  go_wp2_with fail
                  refine (next1_any (l.length : Int) _ b _ CG.out.d.src (by omega) (by omega) (by omega)).mono ?_
                  rintro e W4 ⟨x, rfl, x0, x1, hS, hB⟩
                  have C4 := hik (CG.out.draw hS hB)
                  clear hS hB CG c0 c1 c2 c3 f0 f1 f2 f3
                  obtain ⟨c0, c1, c2, c3, f0, f1, f2, f3⟩ := C4.out.cells
                  have C5 := hik (C4.out.fa x)
                  go_upto_region 14 with fail
                  generalize W4.setCell ⟨gb, 1, none⟩ (.int .i64 x) = W5 at C5 ⊢
                  clear C4 c0 c1 c2 c3 f0 f1 f2 f3
                  go_wp2_with fail
                  refine (next1_any (l.length : Int) _ b _ C5.out.d.src (by omega) (by omega) (by omega)).mono ?_
                  rintro e W6 ⟨y, rfl, y0, y1, hS, hB⟩
                  have C6 := hik (C5.out.draw hS hB)
                  clear hS hB C5
                  obtain ⟨c0, c1, c2, c3, f0, f1, f2, f3⟩ := C6.out.cells
                  have C7 := hik (C6.out.fb y)
                  go_upto_region 15 with fail
                  generalize W6.setCell ⟨gb, 2, none⟩ (.int .i64 y) = W7 at C7 ⊢
                  clear C6 c0 c1 c2 c3 f0 f1 f2 f3
                  obtain ⟨c0, c1, c2, c3, f0, f1, f2, f3⟩ := C7.out.cells
                  by_cases h7 : o = 7
                  · subst h7
                    go_wp2_with fail
                    refine (chance_any 5 _ b _ (hik C7.out.d.src) (by omega) (by omega) (by omega)).mono ?_
                    rintro e W8 ⟨β, rfl, hS, hB⟩
                    have C8 := hik (C7.out.draw hS hB)
                    clear hS hB C7 c0 c1 c2 c3 f0 f1 f2 f3
                    obtain ⟨c0, c1, c2, c3, f0, f1, f2, f3⟩ := C8.out.cells
                    cases β with
                    | true =>
                      go_wp2
                      go_meet
                      exact ⟨x, y, ⟨x0, by rw [if_pos (by omega)]; omega⟩, ⟨y0, by rw [if_pos (by omega)]; omega⟩, hik (C8.out.mono (by omega))⟩
                    | false =>
                      go_wp2
                      go_meet
                      exact ⟨x, x, ⟨x0, by rw [if_pos (by omega)]; omega⟩, ⟨x0, by rw [if_pos (by omega)]; omega⟩, hik ((C8.out.fb x).mono (by omega))⟩
                  · have h7b : (o == 7) = false := beq_eq_false_iff_ne.2 h7
                    go_wp2
                    go_meet
                    exact ⟨x, y, ⟨x0, by rw [if_pos (by omega)]; omega⟩, ⟨y0, by rw [if_pos (by omega)]; omega⟩, hik (C7.out.mono (by omega))⟩
                · have hk := hk1 (by omega)
                  go_wp2_with fail
                  refine (next1_any (l.length : Int) _ b _ CG.out.d.src (by omega) (by omega) (by omega)).mono ?_
                  rintro e W4 ⟨x, rfl, x0, x1, hS, hB⟩
                  have C4 := hik (CG.out.draw hS hB)
                  clear hS hB CG c0 c1 c2 c3 f0 f1 f2 f3
                  obtain ⟨c0, c1, c2, c3, f0, f1, f2, f3⟩ := C4.out.cells
                  go_wp2
                  go_meet
                  exact ⟨x, 0, ⟨x0, by rw [if_pos (by omega)]; omega⟩, ⟨by omega, by rw [if_neg (by omega)]; omega⟩, hik ((C4.out.fa x).mono (by omega))⟩
                · go_wp2
                  go_meet
                  exact ⟨0, 0, ⟨by omega, by rw [if_neg (by omega)]; omega⟩, ⟨by omega, by rw [if_neg (by omega)]; omega⟩, hik (CG.out.mono (by omega))⟩
              case rest =>
                clear CG
                obtain ⟨x, y, hx, hy, CG⟩ := hcut
                obtain ⟨c0, c1, c2, c3, f0, f1, f2, f3⟩ := CG.out.cells
                obtain ⟨τ, hτ⟩ : ∃ τ, τ = (o == 3) := ⟨_, rfl⟩
                go_upto_if 72 with fail
                rw [← hτ]
                clear c0 c1 c2 c3 f0 f1 f2 f3
                go_cut [] (fun W => ∃ z : Int, (0 ≤ z ∧ z < if o = 3 then 2130706433 else 1) ∧ Hid (CtG w b gc gb (A + 60) l v (o, x, y, z) W))
                case first =>
                  cases τ with
                  | false =>
                    have h3 : ¬ o = 3 := beq_eq_false_iff_ne.1 hτ.symm
                    clear hτ
                    go_wp2
                    go_meet
                    exact ⟨0, ⟨by omega, by rw [if_neg h3]; omega⟩, hik (CG.out.mono (by omega))⟩
                  | true =>
                    have H3 := hik (show o = 3 from beq_iff_eq.1 hτ.symm)
                    clear hτ
                    go_wp2_with fail
                    refine (fieldC_any _ b _ CG.out.d.src (by omega)).mono ?_
                    rintro e W4 ⟨f, rfl, q0, q1, hS, hB⟩
                    have C4 := hik (CG.out.draw hS hB)
                    clear hS hB CG
                    have ka := (Chg.refl nob W4).alloc (.cells #[.int .i64 0, .int .i64 1, .int .i64 f] 3)
                    have R4 := hik (rowN_new W4 3 #[.int .i64 0, .int .i64 1, .int .i64 f] 3 rfl)
                    have C5 := hik (C4.out.keep ka)
                    have hbb := hik (show ¬ W4.heap.size = b by have := C4.out.d.chg.size; have := C4.out.d.lb; omega)
                    clear ka C4
                    go_wp2_with fail
                    refine (nextC_any 3 _ b _ C5.out.d.src (by omega) (by omega) (by omega)).mono ?_
                    rintro e W6 ⟨r, rfl, r0, r1, hS, hB⟩
                    have C6 := hik (C5.out.draw hS hB)
                    have R6 := hik (rowIs_chg R4.out hB hbb.out)
                    clear hS hB C5 R4
                    obtain ⟨c0, c1, c2, c3, f0, f1, f2, f3⟩ := C6.out.cells
                    have y0 := R6.out.cell (i := 0) (by omega)
                    have y1 := R6.out.cell (i := 1) (by omega)
                    have y2 := R6.out.cell (i := 2) (by omega)
                    rcases (show r = 0 ∨ r = 1 ∨ r = 2 by omega) with rfl | rfl | rfl
                    · go_wp2
                      go_meet
                      exact ⟨0, ⟨by omega, by rw [if_pos H3.out]; omega⟩, hik ((C6.out.fk 0).mono (by omega))⟩
                    · go_wp2
                      go_meet
                      exact ⟨1, ⟨by omega, by rw [if_pos H3.out]; omega⟩, hik ((C6.out.fk 1).mono (by omega))⟩
                    · go_wp2
                      go_meet
                      exact ⟨f, ⟨by omega, by rw [if_pos H3.out]; omega⟩, hik ((C6.out.fk f).mono (by omega))⟩
                case rest =>
                  clear CG hτ τ
                  obtain ⟨z, hz, CG⟩ := hcut
                  have hgt : gtb l.length (o, x, y, z) = true := by
                    unfold gtb ptb
                    simp only [Bool.and_eq_true, decide_eq_true_eq]
                    rw [← hu]
                    exact ⟨o1, hx, hy, hz⟩
                  have HG2 := hik (HG.out.put hgt o2)
                  have x0 := CG.out.d.cr.cell (i := 0) (by omega)
                  have xf := CG.out.d.cr.frozen 0
                  obtain ⟨c0, c1, c2, c3, f0, f1, f2, f3⟩ := CG.out.cells
                  have ka := (Chg.refl nob wc).alloc (.cells #[.int .i64 o, .int .i64 x, .int .i64 y, .int .i64 z] 23)
                  have EB := hik (CG.out.d.keep ka)
                  have NW := hik (newg wc (o, x, y, z) 23 wc.heap.size rfl)
                  have LC := hik (show w.heap.size ≤ (wc.alloc (.cells #[.int .i64 o, .int .i64 x, .int .i64 y, .int .i64 z] 23)).heap.size from EB.out.chg.size)
                  clear ka CG hx hy hz hgt o1 o2 o3 hu hu2 hk1
                  go_wp2_with (at_builtin; refine wpList_appG (by rfl) (.tmp 82) (.tmp 84) (by rfl) w.heap.size _ l (by rfl) EB.out.gg ⟨wc.heap.size, 0, none⟩ 1 1 [(o, x, y, z)] (by rfl) rfl NW.out (by omega) LC.out ?b6)
                  case b6 =>
                    intro v7 w7 hg7 k7
                    obtain ⟨g7, cap7, e7, -, -, -, -⟩ := hg7.shape
                    rw [List.length_append, List.length_singleton] at e7
                    subst e7
                    have D8 := hik (EB.out.grow hg7 k7 (show A + 60 ≤ n + 3 + 60 * (l ++ [(o, x, y, z)]).length by rw [List.length_append, List.length_singleton]; omega))
                    have g1 := (rowIs_chg EB.out.cr k7 (EB.out.gg.off EB.out.cr (by decide))).frozen 0
                    have g2 := (rowIs_chg EB.out.cr k7 (EB.out.gg.off EB.out.cr (by decide))).cell (i := 0) (by omega)
                    clear hg7 k7 EB NW LC x0 xf c0 c1 c2 c3 f0 f1 f2 f3
                    go_wp2
                    go_roundg (M - (l.length + 1))
                    case measure => omega
                    case rel => exact ⟨l ++ [(o, x, y, z)], _, by rw [List.length_append, List.length_singleton]; omega, by rw [List.length_append, List.length_singleton], by rw [List.length_append, List.length_singleton]; go_num, HG2, D8⟩
    · have hl2 : l.length = M := by omega
      have hlm : ¬ ((l.length : Nat) : Int) < (M : Int) := by omega
      have x0 := HD.out.cr.cell (i := 0) (by omega)
      have xr := HD.out.rr.cell (i := 0) (by omega)
      have xf := HD.out.rr.frozen 0
      obtain ⟨g, cap, rfl, h91, h92, h93, h94⟩ := HD.out.gg.shape
      have H91 := hik h91
      have H93 := hik h93
      have H94 := hik h94
      clear h91 h92 h93 h94
      have nr := HD.out.gg.off HD.out.rr (by decide)
      have ks := hik (show Chg (fun i => i = w.heap.size) wr (wr.setCell ⟨w.heap.size, 0, none⟩ (.slice (some ⟨g, 0, none⟩) l.length cap)) from (Chg.refl (fun i => i = w.heap.size) wr).setCell (p := ⟨w.heap.size, 0, none⟩) (fun _ => rfl) _)
      have ng := hik (show g ≠ w.heap.size from fun e => nr (congrArg some e))
      have RS := hik (HD.out.rr.set 0 (.slice (some ⟨g, 0, none⟩) l.length cap))
      clear nr
      have u0 := RS.out.cell (i := 0) (by omega)
      rw [if_pos rfl] at u0
      have hM := hl2
      subst hM
      have HT := hik (H94.out.chg ks.out ng.out)
      have HC := hik (show Chg (fun k => k = b) w (wr.setCell ⟨w.heap.size, 0, none⟩ (.slice (some ⟨g, 0, none⟩) l.length cap)) from HD.out.chg.setCell (p := ⟨w.heap.size, 0, none⟩) (fun q => absurd (show w.heap.size < w.heap.size from q) (by omega)) _)
      have HS := hik ((HD.out.src.chg ks.out (fun i hi q => by have q : i = w.heap.size := q; have := HD.out.lb; rw [q] at hi; omega)).mono (show n + 3 + 60 * l.length ≤ n + 600 by omega))
      go_wp2
      exact bodyPost_ret (v := .agg #[.slice (some ⟨g, 0, none⟩) l.length cap]) (by simp [results, Tryd.results20, go_sem, u0]) rfl ⟨l, g, cap, rfl, H93.out, H91.out, HT.out, HG.out, hM9.1, hM9.2, HS.out, HC.out⟩

/-- A circuit out of a code. -/
def NewG (w : World) (e : Ending) (w' : World) : Prop := ∃ (l : List Gt) (g cap : Nat), e = .returned (.agg #[.slice (some ⟨g, 0, none⟩) l.length cap]) ∧ w.heap.size ≤ g ∧ l.length ≤ cap ∧ GtL w' g l ∧ Gin l ∧ 1 ≤ l.length ∧ l.length ≤ 9 ∧ Chg nob w w'
set_option maxHeartbeats 4000000 in
theorem circuitOf_any (c : Option Addr) (len cap : Nat) (w : World) (h : Bytes w c len) (hl : (len : Int) ≤ 9223372036854775807) :
    Calls Tryd.prog 8 #[.slice c len cap] w fun e w' => NewG w e w' := by
  have K0 := hik ((Chg.refl nob w).alloc (.cells #[.slice none 0 0] 31))
  have A0 := hik (rowN_new w 1 #[.slice none 0 0] 31 rfl)
  go_enter Tryd.func8, Tryd.ntmps8
  go_wp2_with fail
  refine (l00Source_any c len cap _ (h.below K0.out.belowAll) hl).mono ?_
  rintro e W1 ⟨rfl, hs, hb⟩
  have k1 := chg_of_below hb
  have A1 := hik (rowIs_keep A0.out k1)
  have K1 := hik (K0.out.trans k1)
  have S1 := hik hs
  have l0 : w.heap.size < (w.alloc (.cells #[.slice none 0 0] 31)).heap.size := A0.out.lt
  clear hs hb k1 A0 K0
  generalize hE : w.alloc (.cells #[.slice none 0 0] 31) = W0 at S1 l0 ⊢
  clear hE
  have l1 : W0.heap.size < W1.heap.size := S1.out.lt
  go_wp2_with fail
  refine (circuit_any 0 _ _ S1.out (by omega)).mono ?_
  rintro e W2 ⟨l, g, cp, rfl, hg, hcp, ht, hi, h1, h9, _, k2⟩
  have A2 := hik (rowIs_chg A1.out k2 (by omega))
  have K2 := hik (K1.out.near k2 (fun i e => by have e : i = W0.heap.size := e; omega))
  have HG := hik (show g ≠ w.heap.size ∧ w.heap.size ≤ g from ⟨by omega, by omega⟩)
  have HT := hik ht
  have HI := hik hi
  have HCP := hik hcp
  clear ht hi hg k2 A1 K1 S1 hcp
  have z0 := A2.out.cell (i := 0) (by omega)
  have zf0 := A2.out.frozen 0
  have QQ := hik ((Chg.refl (fun x => x = w.heap.size) W2).setCell (p := ⟨w.heap.size, 0, none⟩) (fun _ => rfl) (.slice (some ⟨g, 0, none⟩) l.length cp))
  have u0 := (A2.out.set 0 (.slice (some ⟨g, 0, none⟩) l.length cp)).cell (i := 0) (by omega)
  rw [if_pos rfl] at u0
  go_wp2
  exact bodyPost_ret (v := .agg #[.slice (some ⟨g, 0, none⟩) l.length cp]) (by simp [results, Tryd.results8, go_sem, u0]) rfl ⟨l, g, cp, rfl, HG.out.2, HCP.out, HT.out.chg QQ.out HG.out.1, HI.out, h1, h9, K2.out.near QQ.out (fun i e => by have e : i = w.heap.size := e; omega)⟩

end Go.Proofs.YtpndbkgjdnkmcaaDoor
