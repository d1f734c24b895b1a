/- The calls on words at right arguments, told by elements: contracts. Conditions: elements of the greater field, lists of 2 to the m, at most 512. -/
import Derived.Test.YtagjffjdoimhbacLawE
import Derived.Test.YtagjffjdoimhbacLawW
import Derived.Test.YtagjffjdoimhbacIswX
import Derived.Test.YtagjffjdoimhbacPolX
import Derived.Test.YtagjffjdoimhbacNttI
import Derived.Test.YtagjffjdoimhbacNttP
namespace Go.Proofs.Ytagjffjdoimhbac
open Go.ChangeShapes Go.WideShapes Go.ChangeAt Go.RowKit
set_option linter.unusedVariables false
set_option maxRecDepth 100000
set_option linter.unusedSimpArgs false

theorem akc7_el (t : Nat → El) {m n : Nat} (hm : m ≤ 9) (hn : n = 2 ^ m) : akc7 (cA t) (cB t) n = 0 := by
  have := pow_le9 hm
  unfold akc7
  rw [if_neg (by omega), okP_el, if_pos rfl, p9_yes hm (by rw [hn]), if_pos rfl]
theorem akn7_el (t : Nat → El) {m n : Nat} (hm : m ≤ 9) (hn : n = 2 ^ m) : akn7 (cA t) (cB t) n = n := akn7_all (akc7_el t hm hn)
theorem ntv_el (t : Nat → El) {m n : Nat} (hn : n = 2 ^ m) : ntv (cA t) (cB t) n = El.nt m t (El.rtE m) := by unfold ntv; rw [elF_el, hn, Nat.log2_two_pow]
theorem bkv_el (t : Nat → El) {m n : Nat} (hn : n = 2 ^ m) : bkv (cA t) (cB t) n = El.bk m t (El.rtE m) := by unfold bkv; rw [elF_el, hn, Nat.log2_two_pow]

theorem ntt_el (c : Option Addr) (N m cap : Nat) (hN : N = 2 ^ m) (t : Nat → El) (w : World) (h : Hid (PairE w c N t)) (hm : m ≤ 9) : Calls Try.prog 30 #[.slice c N cap] w fun e w' => TbE w N (El.nt m t (El.rtE m)) e w' :=
  (nttX_any c N cap (cA t) (cB t) w h (by have := pow_le9 hm; omega)).mono (fun e w' q => TbE.of q (akc7_el t hm hN) (akn7_el t hm hN) (ntv_el t hN))

theorem sNtt_el (c : Option Addr) (N m cap : Nat) (hN : N = 2 ^ m) (t : Nat → El) (w : World) (h : Hid (PairE w c N t)) (hm : m ≤ 9) : Calls Try.prog 31 #[.slice c N cap] w fun e w' => TbE w N (El.nt m t (El.rtE m)) e w' :=
  (sNttX_any c N cap (cA t) (cB t) w h (by have := pow_le9 hm; omega)).mono (fun e w' q => TbE.of q (akc7_el t hm hN) (akn7_el t hm hN) (ntv_el t hN))

theorem invn_el9 (c : Option Addr) (N m cap : Nat) (hN : N = 2 ^ m) (t : Nat → El) (w : World) (h : Hid (PairE w c N t)) (hm : m ≤ 9) : Calls Try.prog 32 #[.slice c N cap] w fun e w' => TbE w N (El.bk m t (El.rtE m)) e w' :=
  (invX_any c N cap (cA t) (cB t) w h (by have := pow_le9 hm; omega)).mono (fun e w' q => TbE.of q (akc7_el t hm hN) (akn7_el t hm hN) (bkv_el t hN))

theorem ewc_el (t : Nat → El) {m n q : Nat} (hm : m + q ≤ 9) (hn : n = 2 ^ m) : ewc (cA t) (cB t) n (q : Int) = 0 := by
  unfold ewc
  rw [if_pos (akc7_el t (by omega) hn), if_pos ⟨by omega, by omega, by rw [Int.toNat_natCast, hn, ← Nat.pow_add]; exact pow_le9 hm⟩]
theorem ewn_el (t : Nat → El) {m n q : Nat} (hm : m + q ≤ 9) (hn : n = 2 ^ m) : ewn (cA t) (cB t) n (q : Int) = n * 2 ^ q := by rw [ewn_all (ewc_el t hm hn), Int.toNat_natCast]
theorem ewv_el (t : Nat → El) {m n q : Nat} (hn : n = 2 ^ m) : ewv (cA t) (cB t) n (q : Int) = El.nt (m + q) (fitE t n zE) (El.rtE (m + q)) := by
  unfold ewv
  rw [elF_el, Int.toNat_natCast, show (n * 2 ^ q).log2 = m + q by rw [hn, ← Nat.pow_add, Nat.log2_two_pow]]

theorem enc_el (c : Option Addr) (N m q Z cap : Nat) (hN : N = 2 ^ m) (hZ : Z = N * 2 ^ q) (t : Nat → El) (w : World) (h : Hid (PairE w c N t)) (hm : m + q ≤ 9) : Calls Try.prog 35 #[.slice c N cap, .int .i64 (q : Int)] w fun e w' => TbC w 0 Z (El.nt (m + q) (fitE t N zE) (El.rtE (m + q))) e w' :=
  (encX_any c N cap (cA t) (cB t) (q : Int) w h (by have := pow_le9 (show m ≤ 9 by omega); omega)).mono (fun e w' k => k.eq (ewc_el t hm hN) (by rw [ewn_el t hm hN, hZ]) (fun i _ => by rw [ewv_el t hN]))

theorem sEnc_el (c : Option Addr) (N m q Z cap : Nat) (hN : N = 2 ^ m) (hZ : Z = N * 2 ^ q) (t : Nat → El) (w : World) (h : Hid (PairE w c N t)) (hm : m + q ≤ 9) : Calls Try.prog 36 #[.slice c N cap, .int .i64 (q : Int)] w fun e w' => TbC w 0 Z (El.nt (m + q) (fitE t N zE) (El.rtE (m + q))) e w' :=
  (sEncX_any c N cap (cA t) (cB t) (q : Int) w h (by have := pow_le9 (show m ≤ 9 by omega); omega)).mono (fun e w' k => k.eq (ewc_el t hm hN) (by rw [ewn_el t hm hN, hZ]) (fun i _ => by rw [ewv_el t hN]))

theorem iwc_el (t : Nat → El) {m n q : Nat} (hm : m + q ≤ 9) (hn : n = 2 ^ (m + q)) : iwc (cA t) (cB t) n (q : Int) = 0 := by
  unfold iwc
  rw [if_pos (akc7_el t hm hn), if_pos ⟨by omega, by omega, by
    rw [Int.toNat_natCast, hn, Nat.pow_add, Nat.mul_div_cancel _ (Nat.two_pow_pos q)]
    have := Nat.two_pow_pos m
    omega⟩]
theorem isw_el (c : Option Addr) (N m q cap : Nat) (hN : N = 2 ^ (m + q)) (t : Nat → El) (w : World) (h : Hid (PairE w c N t)) (hm : m + q ≤ 9) : Calls Try.prog 37 #[.slice c N cap, .int .i64 (q : Int)] w fun e w' => e = .returned (.tuple #[.bool (wdb (El.bk (m + q) t (El.rtE (m + q))) (2 ^ m) N), .int .i64 0]) ∧ Chg nob w w' :=
  (isWordX_any c N cap (cA t) (cB t) (q : Int) w h (by have := pow_le9 hm; omega)).mono (fun e w' k => ⟨by
    have hb : iwb (cA t) (cB t) N (q : Int) = wdb (El.bk (m + q) t (El.rtE (m + q))) (2 ^ m) N := by
      unfold iwb
      rw [iwc_el t hm hN, elF_el, show N.log2 = m + q by rw [hN, Nat.log2_two_pow], Int.toNat_natCast, show N / 2 ^ q = 2 ^ m by rw [hN, Nat.pow_add, Nat.mul_div_cancel _ (Nat.two_pow_pos q)]]
      rfl
    rw [k.1, hb, iwc_el t hm hN], k.2⟩)

theorem pac_el (t : Nat → El) (x : El) {n : Nat} (hn : n ≤ 4096) : pac (cA t) (cB t) n x.v.1 x.v.2 = 0 := by unfold pac; rw [if_neg (by omega), okP_el, eok_el]; rfl
theorem pav_el (t : Nat → El) (x : El) {n : Nat} (hn : n ≤ 4096) : pav (cA t) (cB t) n x.v.1 x.v.2 = El.pl t x n := by unfold pav; rw [pac_el t x hn, if_pos rfl, elF_el, elP_el, El.plt_all]

theorem polyA_el (c : Option Addr) (n cap : Nat) (t : Nat → El) (x : El) (a b : Int) (ha : a = x.v.1) (hb : b = x.v.2) (w : World) (h : Hid (PairE w c n t)) (hn : n ≤ 4096) : Calls Try.prog 26 #[.slice c n cap, .agg #[.int .i64 a, .int .i64 b]] w fun e w' => e = .returned (.tuple #[.agg #[.int .i64 (El.pl t x n).v.1, .int .i64 (El.pl t x n).v.2], .int .i64 0]) ∧ Chg nob w w' := by
  subst ha hb
  exact (polyX_any c n cap (cA t) (cB t) x.v.1 x.v.2 w h (by omega)).mono (fun e w' k => ⟨by rw [k.1, pav_el t x hn, pac_el t x hn], k.2⟩)

theorem sPolyA_el (c : Option Addr) (n cap : Nat) (t : Nat → El) (x : El) (a b : Int) (ha : a = x.v.1) (hb : b = x.v.2) (w : World) (h : Hid (PairE w c n t)) (hn : n ≤ 4096) : Calls Try.prog 28 #[.slice c n cap, .agg #[.int .i64 a, .int .i64 b]] w fun e w' => e = .returned (.tuple #[.agg #[.int .i64 (El.pl t x n).v.1, .int .i64 (El.pl t x n).v.2], .int .i64 0]) ∧ Chg nob w w' := by
  subst ha hb
  exact (sPolyX_any c n cap (cA t) (cB t) x.v.1 x.v.2 w h (by omega)).mono (fun e w' k => ⟨by rw [k.1, pav_el t x hn, pac_el t x hn], k.2⟩)

end Go.Proofs.Ytagjffjdoimhbac
