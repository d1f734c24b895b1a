/- Several texts in one: Lists and codes told by elements: words. No condition but those that each theorem states. · The calls on words at right arguments, told by elements: contracts. Conditions: elements of the greater field, lists of 2 to the m, at most 512. -/
import Derived.Test.YtnpmhfhgnnhclarDoorBzat
import Derived.Test.YtnpmhfhgnnhclarDoorBzbl
import Derived.Test.YtnpmhfhgnnhclarDoorBzbm
import Derived.Test.YtnpmhfhgnnhclarDoorBzbn
import Derived.Test.YtnpmhfhgnnhclarDoorBzaz
import Derived.Test.YtnpmhfhgnnhclarDoorBzbi
namespace Go.Proofs.YtnpmhfhgnnhclarDoor
open Go.ChangeShapes Go.WideShapes Go.ChangeAt Go.RowKit
set_option linter.unusedVariables false
set_option linter.unusedSimpArgs false

theorem elF_el (t : Nat → El) : elF (cA t) (cB t) = t := by
  funext i
  exact El.eq (elP_v (eok_el (t i)))
/-- A slice of elements of a call's own, and the code of no fault. -/
def TbE (w : World) (m : Nat) (t : Nat → El) (e : Ending) (w' : World) : Prop :=
  ∃ (c : Option Addr) (cap : Nat), e = .returned (.tuple #[.slice c m cap, .int .i64 0]) ∧ OwnE w' w.heap.size c m (cA t) (cB t) ∧ Chg nob w w'
theorem TbE.of {w : World} {code : Int} {m m' : Nat} {t t' : Nat → El} {e : Ending} {w' : World} (h : TbC w code m t e w') (hc : code = 0) (hm : m = m') (ht : t = t') : TbE w m' t' e w' := by
  subst hc hm ht
  obtain ⟨c, cap, rfl, _, _, ho, k⟩ := h
  exact ⟨c, cap, rfl, ho, k⟩

end Go.Proofs.YtnpmhfhgnnhclarDoor

namespace Go.Proofs.YtnpmhfhgnnhclarDoor
open Go.ChangeShapes Go.WideShapes Go.ChangeAt Go.RowKit
set_option linter.unusedVariables false
set_option maxRecDepth 100000
set_option linter.unusedSimpArgs false

theorem akc7_el (t : Nat → El) {m n : Nat} (hm : m ≤ 9) (hn : n = 2 ^ m) : akc7 (cA t) (cB t) n = 0 := by
  have := pow_le9 hm
  unfold akc7
  rw [if_neg (by omega), okP_el, if_pos rfl, p9_yes hm (by rw [hn]), if_pos rfl]

theorem ewc_el (t : Nat → El) {m n q : Nat} (hm : m + q ≤ 9) (hn : n = 2 ^ m) : ewc (cA t) (cB t) n (q : Int) = 0 := by
  unfold ewc
  rw [if_pos (akc7_el t (by omega) hn), if_pos ⟨by omega, by omega, by rw [Int.toNat_natCast, hn, ← Nat.pow_add]; exact pow_le9 hm⟩]
theorem ewn_el (t : Nat → El) {m n q : Nat} (hm : m + q ≤ 9) (hn : n = 2 ^ m) : ewn (cA t) (cB t) n (q : Int) = n * 2 ^ q := by rw [ewn_all (ewc_el t hm hn), Int.toNat_natCast]
theorem ewv_el (t : Nat → El) {m n q : Nat} (hn : n = 2 ^ m) : ewv (cA t) (cB t) n (q : Int) = El.nt (m + q) (fitE t n zE) (El.rtE (m + q)) := by
  unfold ewv
  rw [elF_el, Int.toNat_natCast, show (n * 2 ^ q).log2 = m + q by rw [hn, ← Nat.pow_add, Nat.log2_two_pow]]

theorem enc_el (c : Option Addr) (N m q Z cap : Nat) (hN : N = 2 ^ m) (hZ : Z = N * 2 ^ q) (t : Nat → El) (w : World) (h : Hid (PairE w c N t)) (hm : m + q ≤ 9) : Calls Tryd.prog 30 #[.slice c N cap, .int .i64 (q : Int)] w fun e w' => TbC w 0 Z (El.nt (m + q) (fitE t N zE) (El.rtE (m + q))) e w' :=
  (encX_any c N cap (cA t) (cB t) (q : Int) w h (by have := pow_le9 (show m ≤ 9 by omega); omega)).mono (fun e w' k => k.eq (ewc_el t hm hN) (by rw [ewn_el t hm hN, hZ]) (fun i _ => by rw [ewv_el t hN]))


end Go.Proofs.YtnpmhfhgnnhclarDoor
