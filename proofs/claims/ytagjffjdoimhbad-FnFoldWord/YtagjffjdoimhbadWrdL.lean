/- The calls on words at right arguments, told by elements: contracts. Conditions: elements of the greater field, lists of 2 to the m, at most 512. -/
import Derived.Test.YtagjffjdoimhbadLawE
import Derived.Test.YtagjffjdoimhbadLawW
import Derived.Test.YtagjffjdoimhbadIswX
import Derived.Test.YtagjffjdoimhbadPolX
import Derived.Test.YtagjffjdoimhbadNttI
import Derived.Test.YtagjffjdoimhbadNttP
namespace Go.Proofs.Ytagjffjdoimhbad
open Go.ChangeShapes Go.WideShapes Go.ChangeAt Go.RowKit
set_option linter.unusedVariables false
set_option maxRecDepth 100000
set_option linter.unusedSimpArgs false

theorem akc7_el (t : Nat → El) {m n : Nat} (hm : m ≤ 9) (hn : n = 2 ^ m) : akc7 (cA t) (cB t) n = 0 := by
  have := pow_le9 hm
  unfold akc7
  rw [if_neg (by omega), okP_el, if_pos rfl, p9_yes hm (by rw [hn]), if_pos rfl]
theorem akn7_el (t : Nat → El) {m n : Nat} (hm : m ≤ 9) (hn : n = 2 ^ m) : akn7 (cA t) (cB t) n = n := akn7_all (akc7_el t hm hn)
theorem ntv_el (t : Nat → El) {m n : Nat} (hn : n = 2 ^ m) : ntv (cA t) (cB t) n = El.nt m t (El.rtE m) := by unfold ntv; rw [elF_el, hn, Nat.log2_two_pow]
theorem bkv_el (t : Nat → El) {m n : Nat} (hn : n = 2 ^ m) : bkv (cA t) (cB t) n = El.bk m t (El.rtE m) := by unfold bkv; rw [elF_el, hn, Nat.log2_two_pow]

theorem ewc_el (t : Nat → El) {m n q : Nat} (hm : m + q ≤ 9) (hn : n = 2 ^ m) : ewc (cA t) (cB t) n (q : Int) = 0 := by
  unfold ewc
  rw [if_pos (akc7_el t (by omega) hn), if_pos ⟨by omega, by omega, by rw [Int.toNat_natCast, hn, ← Nat.pow_add]; exact pow_le9 hm⟩]
theorem ewn_el (t : Nat → El) {m n q : Nat} (hm : m + q ≤ 9) (hn : n = 2 ^ m) : ewn (cA t) (cB t) n (q : Int) = n * 2 ^ q := by rw [ewn_all (ewc_el t hm hn), Int.toNat_natCast]
theorem ewv_el (t : Nat → El) {m n q : Nat} (hn : n = 2 ^ m) : ewv (cA t) (cB t) n (q : Int) = El.nt (m + q) (fitE t n zE) (El.rtE (m + q)) := by
  unfold ewv
  rw [elF_el, Int.toNat_natCast, show (n * 2 ^ q).log2 = m + q by rw [hn, ← Nat.pow_add, Nat.log2_two_pow]]

theorem enc_el (c : Option Addr) (N m q Z cap : Nat) (hN : N = 2 ^ m) (hZ : Z = N * 2 ^ q) (t : Nat → El) (w : World) (h : Hid (PairE w c N t)) (hm : m + q ≤ 9) : Calls Try.prog 7 #[.slice c N cap, .int .i64 (q : Int)] w fun e w' => TbC w 0 Z (El.nt (m + q) (fitE t N zE) (El.rtE (m + q))) e w' :=
  (encX_any c N cap (cA t) (cB t) (q : Int) w h (by have := pow_le9 (show m ≤ 9 by omega); omega)).mono (fun e w' k => k.eq (ewc_el t hm hN) (by rw [ewn_el t hm hN, hZ]) (fun i _ => by rw [ewv_el t hN]))

theorem pac_el (t : Nat → El) (x : El) {n : Nat} (hn : n ≤ 4096) : pac (cA t) (cB t) n x.v.1 x.v.2 = 0 := by unfold pac; rw [if_neg (by omega), okP_el, eok_el]; rfl
theorem pav_el (t : Nat → El) (x : El) {n : Nat} (hn : n ≤ 4096) : pav (cA t) (cB t) n x.v.1 x.v.2 = El.pl t x n := by unfold pav; rw [pac_el t x hn, if_pos rfl, elF_el, elP_el, El.plt_all]

end Go.Proofs.Ytagjffjdoimhbad
