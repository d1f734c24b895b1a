/- What the program's Ntt and InverseNtt answer: contracts. Conditions: lists that can be read, of at most 2 to the 40. -/
import Derived.Test.YtagjffjdoimhbacBdp
import Derived.Test.YtagjffjdoimhbacBdo
namespace Go.Proofs.Ytagjffjdoimhbac
open Go.ChangeShapes Go.WideShapes Go.ChangeAt Go.RowKit
set_option linter.unusedVariables false
set_option maxRecDepth 100000
set_option linter.unusedSimpArgs false

theorem TbC.eq {w : World} {code code' : Int} {m m' : Nat} {t u : Nat → El} {e : Ending} {w' : World} (h : TbC w code m t e w') (hc : code = code') (hm : m = m') (ht : ∀ i, i < m → t i = u i) : TbC w code' m' u e w' := by
  subst hc; subst hm
  obtain ⟨c, cap, he, h1, h2, ho, kk⟩ := h
  exact ⟨c, cap, he, h1, h2, ho.congr (fun i hi => by unfold cA cB; rw [ht i hi]; exact ⟨rfl, rfl⟩), kk⟩
theorem ewc_zero (f g : Nat → Int) (n : Nat) : ewc f g n 0 = akc7 f g n := by
  unfold ewc
  by_cases h : akc7 f g n = 0
  · obtain ⟨_, m, hm, hnm⟩ := akc7_ok h
    have := pow_le9 hm
    rw [if_pos h, if_pos ⟨by omega, by omega, by simp; omega⟩, h]
  · rw [if_neg h]
theorem ewn_zero (f g : Nat → Int) (n : Nat) : ewn f g n 0 = akn7 f g n := by
  unfold ewn akn7
  rw [ewc_zero]
  simp
theorem ewv_zero {f g : Nat → Int} {n : Nat} (h : akc7 f g n = 0) (i : Nat) : ewv f g n 0 i = ntv f g n i := by
  obtain ⟨_, m, hm, hnm⟩ := akc7_ok h
  unfold ewv ntv
  have e : n * 2 ^ (0 : Int).toNat = n := by simp
  have hl : n.log2 = m := by rw [hnm, Nat.log2_two_pow]
  rw [e, hl]
  exact El.nt_congr m (El.rtE m) (fun i hi => by unfold fitE; rw [if_pos (by omega)]) i

set_option maxHeartbeats 1000000 in
theorem nttX_any (c : Option Addr) (n cap : Nat) (f g : Nat → Int) (w : World) (h : Hid (PairV w c n f g)) (hn : n ≤ 1099511627776) :
    Calls Try.prog 30 #[.slice c n cap] w fun e w' => TbC w (akc7 f g n) (akn7 f g n) (ntv f g n) e w' := by
  have HE := hik (fun (e : Ending) (w' : World) (q : TbC w (ewc f g n 0) (ewn f g n 0) (ewv f g n 0) e w') => (show TbC w (akc7 f g n) (akn7 f g n) (ntv f g n) e w' from q.eq (ewc_zero f g n) (ewn_zero f g n) (fun i hi => ewv_zero (by
    by_cases e : akc7 f g n = 0
    · exact e
    · rw [ewn_zero, akn7_none e] at hi; omega) i)))
  go_enter Try.func30, Try.ntmps30
  go_wp2_with fail
  refine (encX_any c n cap f g 0 _ h hn).mono ?_
  rintro e W1 h1
  obtain ⟨c', cap', he, q1, q2, q3, q4⟩ := HE.out _ _ h1
  subst he
  have HQ := hik (show TbC w (akc7 f g n) (akn7 f g n) (ntv f g n) (.returned (.tuple #[.slice c' (akn7 f g n) cap', .int .i64 (akc7 f g n)])) W1 from ⟨c', cap', rfl, q1, q2, q3, q4⟩)
  clear HE h1 q1 q2 q3 q4
  go_wp2
  go_ret2
  exact HQ.out

set_option maxHeartbeats 2000000 in
theorem invX_any (c : Option Addr) (n cap : Nat) (f g : Nat → Int) (w : World) (h : Hid (PairV w c n f g)) (hn : n ≤ 1099511627776) :
    Calls Try.prog 32 #[.slice c n cap] w fun e w' => TbC w (akc7 f g n) (akn7 f g n) (bkv f g n) e w' := by
  obtain ⟨k, hk⟩ : ∃ k, k = akc7 f g n := ⟨_, rfl⟩
  have HK := hik hk.symm
  by_cases h0 : k = 0
  · have HC := hik (show akc7 f g n = 0 by rw [← hk, h0])
    have HM := hik (akn7_all HC.out)
    subst h0
    obtain ⟨hok, m, hm, hnm⟩ := akc7_ok HC.out
    have hn5 : n ≤ 512 := by rw [hnm]; exact pow_le9 hm
    have hn1 : 1 ≤ n := by rw [hnm]; exact Nat.one_le_two_pow
    have HN := hik hnm
    have HL := hik (show n.log2 = m by rw [hnm, Nat.log2_two_pow])
    have HP := hik (PairE.of h.out hok)
    clear hk hnm
    go_enter Try.func32, Try.ntmps32
    go_wp2_with fail
    refine (wordCode_any c n cap f g _ h hn).mono ?_
    rintro e W1 ⟨rfl, k1⟩
    rw [HK.out]
    have K1 := hik k1
    clear k1
    go_wp2_with fail
    refine (clone9_any c n cap (elF f g) _ (hik (HP.out.keep K1.out)) hn1 (by omega)).mono ?_
    rintro e W2 ⟨c2, cap2, rfl, hc2, hcm2, ho2, k2⟩
    obtain ⟨b, M, hh, rfl, hb, r2⟩ := RowX.of_own ho2 hn1
    have R2 := hik r2
    have G2 := hik (K1.out.trans k2)
    have h1s := K1.out.size
    clear r2 k2 ho2
    go_wp2_with fail
    refine (itp_any hm b n cap2 M hh (elF f g) _ HN R2 hc2 hcm2).mono ?_
    rintro e W3 ⟨rfl, r3, k3⟩
    have R3 := hik r3
    have G3 := hik (Chg.near G2.out k3 (fun i e => by omega))
    clear r3 k3 R2 G2
    go_wp2
    go_ret2
    exact TbC.some HC.out HM.out hc2 hcm2 (OwnE.congr (RowX.own R3.out (Nat.le_trans h1s hb)) (fun i hi => by
      have e2 : El.bk m (elF f g) (El.rtE m) i = bkv f g n i := by unfold bkv; rw [HL.out]
      unfold cA cB
      rw [e2]
      exact ⟨rfl, rfl⟩)) G3.out
  · have HM := hik (akn7_none (f := f) (g := g) (n := n) (by rw [← hk]; exact h0))
    have hb : (k != 0) = true := bne_iff_ne.2 h0
    clear hk
    go_enter Try.func32, Try.ntmps32
    go_wp2_with fail
    refine (wordCode_any c n cap f g _ h hn).mono ?_
    rintro e W1 ⟨rfl, k1⟩
    rw [HK.out]
    have K1 := hik k1
    clear k1
    go_wp2
    go_ret2
    exact TbC.none (k := k) HK.out HM.out K1.out

end Go.Proofs.Ytagjffjdoimhbac
