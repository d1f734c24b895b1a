/- FoldPair at right arguments, told by elements: a contract. Conditions: elements of the greater field, a word of 2 to the m, at most 512, a place of its first half. -/
import Derived.Test.YtagjffjdoimhbadFopX
import Derived.Test.YtagjffjdoimhbadLawE
namespace Go.Proofs.Ytagjffjdoimhbad
open Go.ChangeShapes Go.WideShapes Go.ChangeAt Go.RowKit
set_option linter.unusedVariables false
set_option linter.unusedSimpArgs false

theorem foldPair_el (N k m : Nat) (hN : N = 2 ^ m) (hm : m ≤ 9) (hN2 : 2 ≤ N) {H : Nat} (hk : k < H) (hH : N = 2 * H) (a b r : El) (w : World) :
    Calls Try.prog 12 #[.int .i64 (N : Int), .int .i64 (k : Int), .agg #[.int .i64 a.v.1, .int .i64 a.v.2], .agg #[.int .i64 b.v.1, .int .i64 b.v.2], .agg #[.int .i64 r.v.1, .int .i64 r.v.2]] w fun e w' => e = .returned (.tuple #[.agg #[.int .i64 (El.fpr a b r (El.pwE (El.rtE m) k)).v.1, .int .i64 (El.fpr a b r (El.pwE (El.rtE m) k)).v.2], .int .i64 0]) ∧ Chg nob w w' := by
  have hc : fpc (N : Int) (k : Int) a.v.1 a.v.2 b.v.1 b.v.2 r.v.1 r.v.2 = 0 := by
    unfold fpc
    rw [if_pos (by rw [eok_el, eok_el, eok_el]; rfl), if_pos ⟨p9_yes hm (by rw [hN]), by omega⟩, if_pos (by omega)]
  have hv : fpv (N : Int) (k : Int) a.v.1 a.v.2 b.v.1 b.v.2 r.v.1 r.v.2 = El.fpr a b r (El.pwE (El.rtE m) k) := by
    unfold fpv
    rw [hc, if_pos rfl, elP_el, elP_el, elP_el, Int.toNat_natCast, Int.toNat_natCast, hN, Nat.log2_two_pow]
  have q := pairX_any (N : Int) (k : Int) a.v.1 a.v.2 b.v.1 b.v.2 r.v.1 r.v.2 w
  rw [hc, hv] at q
  exact q

end Go.Proofs.Ytagjffjdoimhbad
