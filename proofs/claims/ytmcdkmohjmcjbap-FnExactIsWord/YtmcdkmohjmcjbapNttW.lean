/- What the model's IsWord answers: a contract. Conditions: lists that can be read, of at most 2 to the 40. -/
import Derived.Test.YtmcdkmohjmcjbapNttB
import Derived.Test.YtmcdkmohjmcjbapTabQ
namespace Go.Proofs.Ytmcdkmohjmcjbap
open Go.ChangeShapes Go.WideShapes Go.ChangeAt Go.RowKit
set_option linter.unusedVariables false
set_option maxRecDepth 100000
set_option linter.unusedSimpArgs false

/-- None of the n coefficients from the s-th on is other than 0. -/
def wdb (A : Nat → El) (s n : Nat) : Bool := (List.range n).all fun j => decide (j < s ∨ ((A j).v.1 = 0 ∧ (A j).v.2 = 0))
theorem wdb_no {A : Nat → El} {s n j : Nat} (hj : j < n) (hs : s ≤ j) (h : ¬ ((A j).v.1 = 0 ∧ (A j).v.2 = 0)) : wdb A s n = false := by
  unfold wdb
  rw [List.all_eq_false]
  exact ⟨j, List.mem_range.2 hj, by simp only [decide_eq_true_eq]; omega⟩
theorem wdb_yes {A : Nat → El} {s n : Nat} (h : ∀ j, s ≤ j → j < n → (A j).v.1 = 0 ∧ (A j).v.2 = 0) : wdb A s n = true := by
  unfold wdb
  rw [List.all_eq_true]
  intro j hj
  have hj' := List.mem_range.1 hj
  simp only [decide_eq_true_eq]
  by_cases e : j < s
  · exact .inl e
  · exact .inr (h j (by omega) hj')

def iwc (f g : Nat → Int) (n : Nat) (rate : Int) : Int := if akc7 f g n = 0 then (if 0 ≤ rate ∧ rate ≤ 9 ∧ ¬ n / 2 ^ rate.toNat = 0 then 0 else 4) else akc7 f g n
def iwb (f g : Nat → Int) (n : Nat) (rate : Int) : Bool := decide (iwc f g n rate = 0) && wdb (El.bk n.log2 (elF f g) (El.rtE n.log2)) (n / 2 ^ rate.toNat) n

set_option maxHeartbeats 2000000 in
theorem sIsWord_any (c : Option Addr) (n cap : Nat) (f g : Nat → Int) (rate : Int) (w : World) (h : Hid (PairV w c n f g)) (hn : n ≤ 1099511627776) :
    Calls Try.prog 17 #[.slice c n cap, .int .i64 rate] w fun e w' => e = .returned (.tuple #[.bool (iwb f g n rate), .int .i64 (iwc f g n rate)]) ∧ Chg nob w w' := by
  by_cases hl : 4096 < n
  · have hl' : 4096 < (n : Int) := by omega
    have HC := hik (show iwc f g n rate = 2 by unfold iwc akc7; rw [if_pos hl]; rfl)
    have HB := hik (show iwb f g n rate = false by unfold iwb; rw [HC.out]; rfl)
    rw [HC.out, HB.out]
    go_enter Try.func17, Try.ntmps17
    go_wp2
    go_ret2
    exact ⟨rfl, Chg.refl _ _⟩
  have hl' : ¬ 4096 < (n : Int) := by omega
  obtain ⟨k, hk⟩ : ∃ k, k = akc7 f g n := ⟨_, rfl⟩
  have HK := hik hk.symm
  by_cases h0 : k = 0
  · have HC0 := hik (show akc7 f g n = 0 by rw [← hk, h0])
    subst h0
    obtain ⟨hok, m, hm, hnm⟩ := akc7_ok HC0.out
    have hn5 : n ≤ 512 := by rw [hnm]; exact pow_le9 hm
    have HN := hik hnm
    have HL := hik (show n.log2 = m by rw [hnm, Nat.log2_two_pow])
    have HP := hik (PairE.of h.out hok)
    clear hk hnm
    by_cases hr : 0 ≤ rate ∧ rate ≤ 9
    · obtain ⟨hr0, hr9⟩ := hr
      obtain ⟨q, rfl⟩ : ∃ q : Nat, rate = (q : Int) := ⟨rate.toNat, by omega⟩
      have HIN := hik (show inW (q : Int) 0 9 = true from decide_eq_true ⟨hr0, hr9⟩)
      obtain ⟨s, hs⟩ : ∃ s, s = n / 2 ^ q := ⟨_, rfl⟩
      have hsh : (n : Int) / 2 ^ q = (s : Int) := by rw [hs]; simp
      have hsn : s ≤ n := by rw [hs]; exact Nat.div_le_self _ _
      have hq : q ≤ 9 := by omega
      by_cases hs0 : s = 0
      · have HC := hik (show iwc f g n (q : Int) = 4 by unfold iwc; rw [if_pos HC0.out, if_neg]; rw [Int.toNat_natCast, ← hs]; omega)
        have HB := hik (show iwb f g n (q : Int) = false by unfold iwb; rw [HC.out]; rfl)
        rw [HC.out, HB.out]
        have hz : (n : Int) / 2 ^ q = 0 := by rw [hsh, hs0]; rfl
        clear hs hsh
        go_enter Try.func17, Try.ntmps17
        go_wp2_with fail
        refine (sAsk7_any c n cap f g _ h hn).mono ?_
        rintro e W1 ⟨rfl, k1⟩
        rw [HK.out]
        have K1 := hik k1
        clear k1
        go_wp2_with fail
        refine (l01In_any (q : Int) 0 9 _).mono ?_
        rintro e WI ⟨rfl, hwi⟩
        have hwj := hwi.symm
        clear hwi
        subst hwj
        rw [HIN.out]
        go_wp2
        go_ret2
        exact ⟨rfl, K1.out⟩
      · have HC := hik (show iwc f g n (q : Int) = 0 by unfold iwc; rw [if_pos HC0.out, if_pos]; rw [Int.toNat_natCast, ← hs]; omega)
        obtain ⟨A, hA⟩ : ∃ A, A = El.bk m (elF f g) (El.rtE m) := ⟨_, rfl⟩
        have HB := hik (show iwb f g n (q : Int) = wdb A s n by unfold iwb; rw [HC.out, HL.out, Int.toNat_natCast, ← hs, hA]; rfl)
        rw [HC.out, HB.out]
        have HA := hik hA
        have HS := hik hs
        have hz : ¬ (s : Int) = 0 := by omega
        have hzb : ((s : Int) == 0) = false := by simpa using hz
        clear hs hA
        go_enter Try.func17, Try.ntmps17
        go_wp2_with fail
        refine (sAsk7_any c n cap f g _ h hn).mono ?_
        rintro e W1 ⟨rfl, k1⟩
        rw [HK.out]
        have K1 := hik k1
        clear k1
        go_wp2_with fail
        refine (l01In_any (q : Int) 0 9 _).mono ?_
        rintro e WI ⟨rfl, hwi⟩
        have hwj := hwi.symm
        clear hwi
        subst hwj
        rw [HIN.out]
        go_wp2_with fail
        refine (sBack_any hm c n cap (elF f g) _ HN (hik (HP.out.keep K1.out))).mono ?_
        rintro e W2 ⟨c', cap', rfl, h1c, h2c, ho, k2⟩
        rw [← HA.out] at ho
        have V2 := hik (show PairE W2 c' n A from OwnE.pairs ho)
        have K2 := hik (K1.out.trans k2)
        clear ho k2
        go_wp2
        go_loop [8] (fun i => ∃ j : Nat, s ≤ j ∧ j ≤ n ∧ i = .int .i64 (j : Int) ∧ Hid (∀ u, s ≤ u → u < j → (A u).v.1 = 0 ∧ (A u).v.2 = 0)) (fun i => n - (intOf i).toNat)
        case atStart => exact ⟨s, Nat.le_refl _, hsn, by first | rfl | rw [hsh], hik (fun u h1 h2 => absurd h2 (by omega))⟩
        case round =>
          obtain ⟨j, hsj, hjn, rfl, HU⟩ := hrel
          by_cases hlt : j < n
          · have hj1 : (j : Int) < (n : Int) := by omega
            have hj0 : (0 : Int) ≤ (j : Int) := by omega
            obtain ⟨xb, xo, ec, hxb, _, _⟩ := PairE.at_ V2.out hlt
            subst ec
            have x0 := PairE.c0 V2.out hlt
            have x1 := PairE.c1 V2.out hlt
            by_cases hz2 : (A j).v.1 = 0 ∧ (A j).v.2 = 0
            · obtain ⟨z1, z2⟩ := hz2
              rw [z1] at x0
              rw [z2] at x1
              go_wp2
              go_round
              case rel => exact ⟨j + 1, by omega, by omega, by go_num, hik (fun u h1 h2 => by
                by_cases e : u = j
                · subst e; exact ⟨z1, z2⟩
                · exact HU.out u h1 (by omega))⟩
              case measure => simp [intOf]; omega
            · have HF := hik (wdb_no hlt hsj hz2)
              go_wp2
              all_goals (go_ret2; exact ⟨by rw [HF.out]; rfl, K2.out⟩)
          · obtain rfl : n = j := by omega
            have HT := hik (wdb_yes HU.out)
            go_wp2
            go_ret2
            exact ⟨by rw [HT.out]; rfl, K2.out⟩
    · have HC := hik (show iwc f g n rate = 4 by unfold iwc; rw [if_pos HC0.out, if_neg]; omega)
      have HB := hik (show iwb f g n rate = false by unfold iwb; rw [HC.out]; rfl)
      have HIN := hik (show inW rate 0 9 = false from decide_eq_false (by omega))
      rw [HC.out, HB.out]
      go_enter Try.func17, Try.ntmps17
      go_wp2_with fail
      refine (sAsk7_any c n cap f g _ h hn).mono ?_
      rintro e W1 ⟨rfl, k1⟩
      rw [HK.out]
      have K1 := hik k1
      clear k1
      go_wp2_with fail
      refine (l01In_any rate 0 9 _).mono ?_
      rintro e WI ⟨rfl, hwi⟩
      have hwj := hwi.symm
      clear hwi
      subst hwj
      rw [HIN.out]
      go_wp2
      go_ret2
      exact ⟨rfl, K1.out⟩
  · have HC := hik (show iwc f g n rate = k by unfold iwc; rw [if_neg (by rw [← hk]; exact h0), HK.out])
    have HB := hik (show iwb f g n rate = false by unfold iwb; rw [HC.out, decide_eq_false h0]; rfl)
    have hb : (k != 0) = true := bne_iff_ne.2 h0
    rw [HC.out, HB.out]
    clear hk
    go_enter Try.func17, Try.ntmps17
    go_wp2_with fail
    refine (sAsk7_any c n cap f g _ h hn).mono ?_
    rintro e W1 ⟨rfl, k1⟩
    rw [HK.out]
    have K1 := hik k1
    clear k1
    go_wp2
    go_ret2
    exact ⟨rfl, K1.out⟩
end Go.Proofs.Ytmcdkmohjmcjbap
