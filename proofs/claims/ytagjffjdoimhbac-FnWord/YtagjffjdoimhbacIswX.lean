/- What the program's IsWord answers: a contract. Conditions: lists that can be read, of at most 2 to the 40. -/
import Derived.Test.YtagjffjdoimhbacInvX
import Derived.Test.YtagjffjdoimhbacNttW
namespace Go.Proofs.Ytagjffjdoimhbac
open Go.ChangeShapes Go.WideShapes Go.ChangeAt Go.RowKit
set_option linter.unusedVariables false
set_option maxRecDepth 100000
set_option linter.unusedSimpArgs false

set_option maxHeartbeats 2000000 in
theorem isWordX_any (c : Option Addr) (n cap : Nat) (f g : Nat → Int) (rate : Int) (w : World) (h : Hid (PairV w c n f g)) (hn : n ≤ 1099511627776) :
    Calls Try.prog 37 #[.slice c n cap, .int .i64 rate] w fun e w' => e = .returned (.tuple #[.bool (iwb f g n rate), .int .i64 (iwc f g n rate)]) ∧ Chg nob w w' := by
  obtain ⟨k, hk⟩ : ∃ k, k = akc7 f g n := ⟨_, rfl⟩
  have HK := hik hk.symm
  by_cases h0 : k = 0
  · have HC0 := hik (show akc7 f g n = 0 by rw [← hk, h0])
    have HM := hik (akn7_all HC0.out)
    subst h0
    obtain ⟨hok, m, hm, hnm⟩ := akc7_ok HC0.out
    have hn5 : n ≤ 512 := by rw [hnm]; exact pow_le9 hm
    have hn1 : 1 ≤ n := by rw [hnm]; exact Nat.one_le_two_pow
    clear hk hnm
    cases hr : rtb rate
    · have HC := hik (show iwc f g n rate = 4 by
        unfold iwc
        rw [if_pos HC0.out, if_neg (fun q => by rw [rtb, decide_eq_true ⟨q.1, q.2.1⟩] at hr; cases hr)])
      have HB := hik (show iwb f g n rate = false by unfold iwb; rw [HC.out]; rfl)
      rw [HC.out, HB.out]
      go_enter Try.func37, Try.ntmps37
      go_wp2_with fail
      refine (invX_any c n cap f g _ h hn).mono ?_
      rintro e W1 ⟨c1, cap1, rfl, hc1, hm1, o1, k1⟩
      rw [HK.out]
      have K1 := hik k1
      clear k1 o1
      go_wp2_with fail
      refine (isWordRate_any rate _).mono ?_
      rintro e W2 ⟨he, hw⟩
      rw [hr] at he
      subst he
      have hw' := hw.symm
      clear hw
      subst hw'
      go_wp2
      go_ret2
      exact ⟨rfl, K1.out⟩
    · have hr' : 0 ≤ rate ∧ rate ≤ 9 := by unfold rtb at hr; simpa using hr
      obtain ⟨hr0, hr9⟩ := hr'
      obtain ⟨q, hq⟩ : ∃ q : Nat, rate = (q : Int) := ⟨rate.toNat, by omega⟩
      subst hq
      obtain ⟨s, hs⟩ : ∃ s, s = n / 2 ^ q := ⟨_, rfl⟩
      have hsh : (n : Int) / 2 ^ q = (s : Int) := by rw [hs]; simp
      have hsn : s ≤ n := by rw [hs]; exact Nat.div_le_self _ _
      have hq : q ≤ 9 := by omega
      by_cases hs0 : s = 0
      · have HC := hik (show iwc f g n (q : Int) = 4 by unfold iwc; rw [if_pos HC0.out, if_neg]; rw [Int.toNat_natCast, ← hs]; omega)
        have HB := hik (show iwb f g n (q : Int) = false by unfold iwb; rw [HC.out]; rfl)
        rw [HC.out, HB.out]
        have hz : (n : Int) / 2 ^ q = 0 := by rw [hsh, hs0]; rfl
        clear hs hsh
        go_enter Try.func37, Try.ntmps37
        go_wp2_with fail
        refine (invX_any c n cap f g _ h hn).mono ?_
        rintro e W1 ⟨c1, cap1, rfl, hc1, hm1, o1, k1⟩
        rw [HK.out]
        have K1 := hik k1
        clear k1 o1
        go_wp2_with fail
        refine (isWordRate_any (q : Int) _).mono ?_
        rintro e W2 ⟨he, hw⟩
        rw [hr] at he
        subst he
        have hw' := hw.symm
        clear hw
        subst hw'
        go_wp2
        go_ret2
        exact ⟨rfl, K1.out⟩
      · have HC := hik (show iwc f g n (q : Int) = 0 by unfold iwc; rw [if_pos HC0.out, if_pos]; rw [Int.toNat_natCast, ← hs]; omega)
        obtain ⟨A, hA⟩ : ∃ A, A = bkv f g n := ⟨_, rfl⟩
        have HB := hik (show iwb f g n (q : Int) = wdb A s n by unfold iwb; rw [HC.out, Int.toNat_natCast, ← hs, hA]; rfl)
        rw [HC.out, HB.out]
        have HA := hik hA
        have hz : ¬ (s : Int) < 1 := by omega
        have hs1 : (0 : Int) ≤ (s : Int) := by omega
        have hs2 : (s : Int) ≤ (n : Int) := by omega
        obtain ⟨d, hd⟩ : ∃ d, d = n - s := ⟨_, rfl⟩
        have HD := hik hd
        have hdn : (n : Int) - (s : Int) = (d : Int) := by omega
        have hdn' : n - s = d := hd.symm
        clear hs hA hd
        go_enter Try.func37, Try.ntmps37
        go_wp2_with fail
        refine (invX_any c n cap f g _ h hn).mono ?_
        rintro e W1 ⟨c1, cap1, he, hc1, hm1, o1, k1⟩
        rw [HM.out] at he hc1 o1
        rw [HK.out] at he
        subst he
        rw [← HA.out] at o1
        have V1 := hik (show PairE W1 c1 n A from OwnE.pairs o1)
        have K1 := hik k1
        clear k1 o1
        obtain ⟨xb, xo, ec, _, _, _⟩ := PairE.at_ V1.out (show 0 < n by omega)
        subst ec
        have hs3 : (s : Int) ≤ (cap1 : Int) := by omega
        go_wp2_with fail
        refine (isWordRate_any (q : Int) _).mono ?_
        rintro e W2 ⟨he, hw⟩
        rw [hr] at he
        subst he
        have hw' := hw.symm
        clear hw
        subst hw'
        by_cases hsc : s = cap1
        · have HT := hik (wdb_yes (A := A) (s := s) (n := n) (fun j h1 h2 => absurd h2 (by omega)))
          have hd0 : n - s = 0 := by omega
          have hd1 : d = 0 := by omega
          go_wp2
          go_loopw [35] (fun i W => i = .int .i64 0 ∧ Hid (Chg nob w W)) (fun _ _ => 0)
          case atStart => exact ⟨rfl, K1⟩
          case round =>
            obtain ⟨rfl, KI⟩ := hrel
            go_wp2
            go_ret2
            exact ⟨by rw [HT.out]; rfl, KI.out⟩
        · go_wp2
          go_loopw [35] (fun i W => ∃ j : Nat, j ≤ d ∧ i = .int .i64 (j : Int) ∧ Hid (∀ u, s ≤ u → u < s + j → (A u).v.1 = 0 ∧ (A u).v.2 = 0) ∧ Hid (PairE W (some ⟨xb, xo, none⟩) n A) ∧ Hid (Chg nob w W)) (fun i _ => d - (intOf i).toNat)
          case atStart => exact ⟨0, Nat.zero_le _, rfl, hik (fun u h1 h2 => absurd h2 (by omega)), V1, K1⟩
          case round =>
            clear V1 K1
            obtain ⟨j, hjd, rfl, HU, VI, KI⟩ := hrel
            rename World => wi
            by_cases hlt : j < d
            · have hj1 : (j : Int) < (d : Int) := by omega
              have hj0 : (0 : Int) ≤ (j : Int) := by omega
              have hjn : s + j < n := by have := HD.out; omega
              have x0 : wi.cell? ⟨xb, xo + s * 2 + j * 2, none⟩ = some (.int .i64 (A (s + j)).v.1) := by rw [show xo + s * 2 + j * 2 = xo + (s + j) * 2 by omega]; exact PairE.c0 VI.out hjn
              have x1 : wi.cell? ⟨xb, xo + s * 2 + j * 2 + 1, none⟩ = some (.int .i64 (A (s + j)).v.2) := by rw [show xo + s * 2 + j * 2 + 1 = xo + (s + j) * 2 + 1 by omega]; exact PairE.c1 VI.out hjn
              by_cases hz2 : (A (s + j)).v.1 = 0 ∧ (A (s + j)).v.2 = 0
              · obtain ⟨z1, z2⟩ := hz2
                rw [z1] at x0
                rw [z2] at x1
                have V2 := hik (VI.out.keep ((Chg.refl nob wi).alloc (.cells #[.int .i64 0, .int .i64 0] 31)))
                have K2 := hik (KI.out.alloc (.cells #[.int .i64 0, .int .i64 0] 31))
                go_wp2
                go_roundw
                case rel => exact ⟨j + 1, by omega, by go_num, hik (fun u h1 h2 => by
                  by_cases e : u = s + j
                  · subst e; exact ⟨z1, z2⟩
                  · exact HU.out u h1 (by omega)), V2, K2⟩
                case measure => simp [intOf]; omega
              · have HF := hik (wdb_no hjn (Nat.le_add_right s j) hz2)
                go_wp2
                all_goals (go_ret2; exact ⟨by rw [HF.out]; rfl, KI.out.alloc _⟩)
            · obtain rfl : d = j := by omega
              have HT := hik (wdb_yes (A := A) (s := s) (n := n) (fun u h1 h2 => HU.out u h1 (by have := HD.out; omega)))
              go_wp2
              go_ret2
              exact ⟨by rw [HT.out]; rfl, KI.out⟩
  · have HC := hik (show iwc f g n rate = k by unfold iwc; rw [if_neg (by rw [← hk]; exact h0), HK.out])
    have HB := hik (show iwb f g n rate = false by unfold iwb; rw [HC.out, decide_eq_false h0]; rfl)
    have hb : (k != 0) = true := bne_iff_ne.2 h0
    rw [HC.out, HB.out]
    clear hk
    go_enter Try.func37, Try.ntmps37
    go_wp2_with fail
    refine (invX_any c n cap f g _ h hn).mono ?_
    rintro e W1 ⟨c1, cap1, rfl, hc1, hm1, o1, k1⟩
    rw [HK.out]
    have K1 := hik k1
    clear k1 o1
    go_wp2
    go_ret2
    exact ⟨rfl, K1.out⟩

end Go.Proofs.Ytagjffjdoimhbac
