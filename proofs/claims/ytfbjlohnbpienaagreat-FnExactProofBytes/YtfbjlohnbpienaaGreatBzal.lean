/- Several texts in one: What a proof holds, and when it has all its parts: words. No condition but those that each theorem states. · When a proof has all its parts: words. No condition but those that each theorem states. -/
import Derived.Test.YtfbjlohnbpienaaGreatBzak
import Derived.Test.YtfbjlohnbpienaaGreatBzam
import Derived.Test.YtfbjlohnbpienaaGreatBzaq
namespace Go.Proofs.YtfbjlohnbpienaaGreat
open Go.ChangeShapes Go.WideShapes Go.ChangeAt Go.RowKit
set_option linter.unusedVariables false
set_option maxRecDepth 100000
set_option linter.unusedSimpArgs false

/-- What a proof holds. -/
structure PD where
  rt : ByteArray
  ng : Nat
  gl : Nat → Nat
  gf : Nat → Nat → Int
  gg : Nat → Nat → Int
  a0 : Int
  a1 : Int
  b0 : Int
  b1 : Int
  c0 : Int
  c1 : Int
  nw : Nat
  wl : Nat → Nat
  wf : Nat → Nat → Int
  wg : Nat → Nat → Int
  v0 : Int
  v1 : Int
  op : OD
/-- Where its lists lie. -/
structure PA where
  cG : Option Addr
  pG : Nat
  cW : Option Addr
  pW : Nat
  cR : Option Addr
  pR : Nat
  cT : Option Addr
  pT : Nat
  cQ : Option Addr
  pQ : Nat
def PD.G (p : PD) : Dt := dEE p.ng p.gl p.gf p.gg
def PD.W (p : PD) : Dt := dEE p.nw p.wl p.wf p.wg
/-- A proof that can be read. -/
def PrV (w : World) (p : PD) (a : PA) : Prop := p.G.Rep w (.slice a.cG p.ng a.pG) ∧ p.W.Rep w (.slice a.cW p.nw a.pW) ∧ OpV w p.op a.cR a.pR a.cT a.pT a.cQ a.pQ
theorem PrV.keep {w w' : World} {p : PD} {a : PA} (h : PrV w p a) (k : Chg nob w w') : PrV w' p a := ⟨h.1.keep k, h.2.1.keep k, h.2.2.keep k⟩
/-- Lengths of at most 2 to the 20; that an int can have. -/
def PD.small (p : PD) : Prop := p.rt.size ≤ 1048576 ∧ p.G.small 1048576 ∧ p.W.small 1048576 ∧ p.op.small
def PD.big (p : PD) : Prop := p.rt.size ≤ 9223372036854775807 ∧ p.G.big ∧ p.W.big ∧ p.op.big
/-- How many items. -/
def PD.cnt (p : PD) : Nat := p.rt.size + sumN (fun j => p.gl j) p.ng + sumN (fun j => p.wl j) p.nw + p.op.cnt

end Go.Proofs.YtfbjlohnbpienaaGreat

namespace Go.Proofs.YtfbjlohnbpienaaGreat
open Go.ChangeShapes Go.WideShapes Go.ChangeAt Go.RowKit
set_option linter.unusedVariables false
set_option maxRecDepth 100000
set_option linter.unusedSimpArgs false

/-- All parts of a proof of a system in a setting. -/
def pfb (p : PD) (s : Sy) (r n g : Int) : Bool := sysb s && (decide (p.rt.size = 32) && (rfB 4 s.r p.ng p.gl p.gf p.gg && ((eok p.a0 p.a1 && (eok p.b0 p.b1 && eok p.c0 p.c1)) && (rfB 3 s.q p.nw p.wl p.wf p.wg && (eok p.v0 p.v1 && ook p.op (s.q - 1) r n g)))))

end Go.Proofs.YtfbjlohnbpienaaGreat
