/- Several texts in one: What the model's sources are behind elements that they take in: contracts. Conditions: rows that can be read. · Words that are committed: the text of a pair, a word's leaves, its root: words. No condition but those that each theorem states. -/
import Derived.Test.YtnpmhfhgnnhclarDoorBzal
import Derived.Test.YtnpmhfhgnnhclarDoorBzaj
import Derived.Test.YtnpmhfhgnnhclarDoorBzao
import Derived.Test.YtnpmhfhgnnhclarDoorBzai
import Derived.Test.YtnpmhfhgnnhclarDoorBzap
namespace Go.Proofs.YtnpmhfhgnnhclarDoor
open Go.ChangeShapes Go.WideShapes Go.ChangeAt Go.RowKit
set_option linter.unusedVariables false
set_option maxRecDepth 100000
set_option linter.unusedSimpArgs false

/-- The text of elements. -/
def etx (f g : Nat → Int) (n : Nat) : ByteArray := bt (byt f g) (n * 8)
theorem etx_size (f g : Nat → Int) (n : Nat) : (etx f g n).size = n * 8 := bt_size _ _


end Go.Proofs.YtnpmhfhgnnhclarDoor

namespace Go.Proofs.YtnpmhfhgnnhclarDoor
open Go.ChangeShapes Go.WideShapes Go.ChangeAt Go.RowKit
set_option linter.unusedVariables false

/-- Two elements. -/
def two (a b : El) (i : Nat) : El := if i = 0 then a else b
/-- The text of two elements. -/
def prT (a b : El) : ByteArray := etx (cA (two a b)) (cB (two a b)) 2
theorem prT_size (a b : El) : (prT a b).size = 16 := etx_size _ _ 2
/-- A word's leaves: elements half a word apart. -/
def lvW (T : Nat → El) (h i : Nat) : ByteArray := prT (T i) (T (i + h))
theorem lvW_size (T : Nat → El) (h i : Nat) : (lvW T h i).size = 16 := prT_size _ _
/-- The root of a word of 2 to the d + 1 elements. -/
def rtW (T : Nat → El) (d : Nat) : ByteArray := lev (lvW T (2 ^ d)) d 0
theorem two_pairs (W : World) (a b : El) : PairV (W.alloc (.cells #[.int .i64 a.v.1, .int .i64 a.v.2, .int .i64 b.v.1, .int .i64 b.v.2] 38)) (some ⟨W.heap.size, 0, none⟩) 2 (cA (two a b)) (cB (two a b)) := by
  intro i hi
  refine ⟨W.heap.size, 0, rfl, by simp, ?_, ?_⟩
  · rcases (show i = 0 ∨ i = 1 by omega) with rfl | rfl <;> (simp [two, cA]; done)
  · rcases (show i = 0 ∨ i = 1 by omega) with rfl | rfl <;> (simp [two, cB]; done)
/-- Texts that can be read. -/
def LsAns (w : World) (n : Nat) (L : Nat → ByteArray) (e : Ending) (w' : World) : Prop :=
  ∃ (c : Option Addr) (cap : Nat), e = .returned (.slice c n cap) ∧ RowV w' c n (sb L) ∧ Chg nob w w'
theorem snocS (L : Nat → ByteArray) (k : Nat) : (List.range k).map (sb L) ++ [.string (L k)] = (List.range (k + 1)).map (sb L) := by
  rw [List.range_succ, List.map_append]; rfl
theorem oneS (s : ByteArray) : ∀ u ∈ ([.string s] : List Value), u.oneCell' = true := by
  intro u hu
  simp at hu
  subst hu
  rfl

end Go.Proofs.YtnpmhfhgnnhclarDoor
