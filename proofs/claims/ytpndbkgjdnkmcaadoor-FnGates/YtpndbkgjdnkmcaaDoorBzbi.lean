/- Several texts in one: Systems: their numbers of rows and columns, their matrices, and whether they are right: the program's contracts. · Rows that fail, as plain numbers; what a right system is made of. No program is named here. -/
import Derived.Test.YtpndbkgjdnkmcaaDoorBzbh
import Derived.Deep.DeepCutAuto
import Derived.Deep.QuietTactic
import Derived.BigQuiet
import Derived.Test.YtpndbkgjdnkmcaaDoorBzbe
namespace Go.Proofs.YtpndbkgjdnkmcaaDoor
open Go.ChangeShapes Go.WideShapes Go.ChangeAt Go.RowKit
open Go.Maps (Keyed IsMap Tidy has)
set_option linter.unusedVariables false
set_option maxRecDepth 100000
set_option linter.unusedSimpArgs false

/-- A system, as plain data. -/
structure Sy where
  r : Int
  q : Int
  p : Int
  nA : Nat
  nB : Nat
  nC : Nat
  XA : Nat → En
  XB : Nat → En
  XC : Nat → En
/-- Where a system's lists lie. -/
structure SyA where
  cA : Option Addr
  cB : Option Addr
  cC : Option Addr
  pA : Nat
  pB : Nat
  pC : Nat
/-- A system's lists can be read. -/
structure SyV (w : World) (s : Sy) (a : SyA) : Prop where
  A : EntV w a.cA s.nA s.XA
  B : EntV w a.cB s.nB s.XB
  C : EntV w a.cC s.nC s.XC
theorem SyV.keep {w w' : World} {s : Sy} {a : SyA} (h : SyV w s a) (k : Chg nob w w') : SyV w' s a := ⟨h.A.keep k, h.B.keep k, h.C.keep k⟩

/-- The cells of a block. -/
def Cel (w : World) (g : Nat) (a : Array Value) : Prop := g < w.heap.size ∧ ∀ i, i < a.size → w.cell? ⟨g, i, none⟩ = some (a.getD i undef)
theorem Cel.chg {P : Nat → Prop} {w w' : World} {g : Nat} {a : Array Value} (h : Cel w g a) (k : Chg P w w') (hp : ¬ P g) : Cel w' g a :=
  ⟨Nat.lt_of_lt_of_le h.1 k.size, fun i hi => by rw [k.cell (p := ⟨g, i, none⟩) h.1 hp]; exact h.2 i hi⟩
theorem Cel.keep {w w' : World} {g : Nat} {a : Array Value} (h : Cel w g a) (k : Chg nob w w') : Cel w' g a := h.chg k (fun x => x)


end Go.Proofs.YtpndbkgjdnkmcaaDoor

namespace Go.Proofs.YtpndbkgjdnkmcaaDoor


end Go.Proofs.YtpndbkgjdnkmcaaDoor
