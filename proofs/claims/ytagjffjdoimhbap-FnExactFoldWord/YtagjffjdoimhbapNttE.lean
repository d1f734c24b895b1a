/- What the model's Ntt and InverseNtt answer: contracts. Conditions: lists that can be read, of at most 2 to the 40. -/
import Derived.Test.YtagjffjdoimhbapNttB
import Derived.Test.YtagjffjdoimhbapNttA
import Derived.Test.YtagjffjdoimhbapTabQ
namespace Go.Proofs.Ytagjffjdoimhbap
open Go.ChangeShapes Go.WideShapes Go.ChangeAt Go.RowKit
set_option linter.unusedVariables false
set_option maxRecDepth 100000
set_option linter.unusedSimpArgs false

/-- How long the answer is. -/
def akn7 (f g : Nat → Int) (n : Nat) : Nat := if akc7 f g n = 0 then n else 0
def ntv (f g : Nat → Int) (n : Nat) : Nat → El := El.nt n.log2 (elF f g) (El.rtE n.log2)
def bkv (f g : Nat → Int) (n : Nat) : Nat → El := El.bk n.log2 (elF f g) (El.rtE n.log2)
theorem sq_ofi (m : Nat) : El.ofi (Fld.sq (24 - m)) = El.rtE m := rfl
theorem akc7_long {f g : Nat → Int} {n : Nat} (h : 4096 < n) : akc7 f g n = 2 := by unfold akc7; rw [if_pos h]
theorem akn7_none {f g : Nat → Int} {n : Nat} (h : ¬ akc7 f g n = 0) : akn7 f g n = 0 := if_neg h
theorem akn7_all {f g : Nat → Int} {n : Nat} (h : akc7 f g n = 0) : akn7 f g n = n := if_pos h

set_option maxHeartbeats 2000000 in
theorem sInvX_any (c : Option Addr) (n cap : Nat) (f g : Nat → Int) (w : World) (h : Hid (PairV w c n f g)) (hn : n ≤ 1099511627776) :
    Calls Try.prog 10 #[.slice c n cap] w fun e w' => TbC w (akc7 f g n) (akn7 f g n) (bkv f g n) e w' := by
  by_cases hl : 4096 < n
  · have hl' : 4096 < (n : Int) := by omega
    have HC := hik (akc7_long (f := f) (g := g) hl)
    have HM := hik (akn7_none (f := f) (g := g) (n := n) (by rw [HC.out]; decide))
    go_enter Try.func10, Try.ntmps10
    go_wp2
    go_ret2
    exact TbC.empty HC.out HM.out (by omega) ((Chg.refl _ _).alloc _)
  have hl' : ¬ 4096 < (n : Int) := by omega
  obtain ⟨k, hk⟩ : ∃ k, k = akc7 f g n := ⟨_, rfl⟩
  have HK := hik hk.symm
  by_cases h0 : k = 0
  · have HC := hik (show akc7 f g n = 0 by rw [← hk, h0])
    have HM := hik (akn7_all HC.out)
    subst h0
    obtain ⟨hok, m, hm, hnm⟩ := akc7_ok HC.out
    have HN := hik hnm
    have HL := hik (show n.log2 = m by rw [hnm, Nat.log2_two_pow])
    have HP := hik (PairE.of h.out hok)
    clear hk hnm
    go_enter Try.func10, Try.ntmps10
    go_wp2_with fail
    refine (sAsk7_any c n cap f g _ h hn).mono ?_
    rintro e W1 ⟨rfl, k1⟩
    rw [HK.out]
    have K1 := hik k1
    clear k1
    go_wp2_with fail
    refine (sBack_any hm c n cap (elF f g) _ HN (hik (HP.out.keep K1.out))).mono ?_
    rintro e W4 ⟨c', cap', rfl, h1c, h2c, ho, k4⟩
    have K4 := hik (K1.out.trans k4)
    have HO := hik ho
    clear k4 ho
    go_wp2
    go_ret2
    exact TbC.some HC.out HM.out h1c h2c (OwnE.low (HO.out.congr (fun i hi => by
      have e2 : El.bk m (elF f g) (El.rtE m) i = bkv f g n i := by unfold bkv; rw [HL.out]
      unfold cA cB
      rw [e2]
      exact ⟨rfl, rfl⟩)) K1.out.size) K4.out
  · have HM := hik (akn7_none (f := f) (g := g) (n := n) (by rw [← hk]; exact h0))
    have hb : (k != 0) = true := bne_iff_ne.2 h0
    clear hk
    go_enter Try.func10, Try.ntmps10
    go_wp2_with fail
    refine (sAsk7_any c n cap f g _ h hn).mono ?_
    rintro e W1 ⟨rfl, k1⟩
    rw [HK.out]
    have K1 := hik k1
    clear k1
    go_wp2
    go_ret2
    exact TbC.empty (k := k) HK.out HM.out (by omega) (K1.out.alloc _)
end Go.Proofs.Ytagjffjdoimhbap
