/- Several texts in one: The model's four bytes of a number: a contract. Condition: a number of the field. · The model's bytes of a list: contracts. Conditions: rows that can be read, right elements. -/
import Derived.Test.YtpndbkgjdnkmcaaDoorBzam
import Derived.Deep.RegionWith
import Derived.Deep.AppendLies
namespace Go.Proofs.YtpndbkgjdnkmcaaDoor
open Go.ChangeShapes Go.WideShapes Go.ChangeAt Go.RowKit
set_option linter.unusedVariables false
set_option linter.unusedSimpArgs false

/-! The model's. -/
/-- Four bytes in new memory. -/
def Four (w : World) (a : Int) (e : Ending) (w' : World) : Prop :=
  ∃ b cap : Nat, w.heap.size ≤ b ∧ e = .returned (.slice (some ⟨b, 0, none⟩) 4 cap) ∧ (∀ j u, (wv a)[j]? = some u → w'.cell? ((⟨b, 0, none⟩ : Addr).add j) = some u) ∧ Chg nob w w'


end Go.Proofs.YtpndbkgjdnkmcaaDoor

namespace Go.Proofs.YtpndbkgjdnkmcaaDoor
open Go.ChangeShapes Go.WideShapes Go.ChangeAt Go.RowKit
set_option linter.unusedVariables false
set_option linter.unusedSimpArgs false

/-- The model's answer, by the code. -/
def SEAns (w : World) (n : Nat) (f g : Nat → Int) (e : Ending) (w' : World) : Prop :=
  (bc f g n ≠ 0 ∧ ∃ (c0 : Option Addr) (cap0 : Nat), e = .returned (.tuple #[.slice c0 0 cap0, .int .i64 (bc f g n)]) ∧ Chg nob w w') ∨
  (bc f g n = 0 ∧ ∃ (c0 : Option Addr) (cap0 : Nat), e = .returned (.tuple #[.slice c0 (n * 8) cap0, .int .i64 0]) ∧ RowV w' c0 (n * 8) (bvl f g) ∧ Chg nob w w')
theorem SEAns.no {w w' : World} {n : Nat} {f g : Nat → Int} {e : Ending} {code : Int} {c0 : Option Addr} {cap0 : Nat} (hb : bc f g n = code) (hc : code ≠ 0) (h : e = .returned (.tuple #[.slice c0 0 cap0, .int .i64 code])) (k : Chg nob w w') : SEAns w n f g e w' :=
  .inl ⟨by rw [hb]; exact hc, c0, cap0, by rw [hb]; exact h, k⟩


end Go.Proofs.YtpndbkgjdnkmcaaDoor
