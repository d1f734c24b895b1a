/- Several texts in one: A matrix at two points: plain. · A matrix's table at a place of noughts and ones: plain numbers. No condition but those that each theorem states. -/
import Derived.Test.YtppiilbcnkphbaaGreatBzav
import Derived.Test.YtppiilbcnkphbaaGreatBzbe
import Derived.Test.YtppiilbcnkphbaaGreatBzbf
import Derived.Test.YtppiilbcnkphbaaGreatBzal
import Derived.Test.YtppiilbcnkphbaaGreatBzbh
import Derived.Test.YtppiilbcnkphbaaGreatBzay
namespace Go.Proofs.YtppiilbcnkphbaaGreat


end Go.Proofs.YtppiilbcnkphbaaGreat

namespace Go.Proofs.YtppiilbcnkphbaaGreat
open Go.ChangeShapes Go.WideShapes Go.ChangeAt Go.RowKit
set_option linter.unusedVariables false

/-- A system's lists lie in blocks below B. -/
def SyLow (s : Sy) (a : SyA) (B : Nat) : Prop := (∀ xb xo, a.cA = some ⟨xb, xo, none⟩ → 0 < s.nA → xb < B) ∧ (∀ xb xo, a.cB = some ⟨xb, xo, none⟩ → 0 < s.nB → xb < B) ∧ (∀ xb xo, a.cC = some ⟨xb, xo, none⟩ → 0 < s.nC → xb < B)
theorem EntV.low9 {w : World} {c : Option Addr} {n : Nat} {X : Nat → En} (h : EntV w c n X) : ∀ xb xo, c = some ⟨xb, xo, none⟩ → 0 < n → xb < w.heap.size := fun xb xo e hn => by
  obtain ⟨b, o, e', hl, _⟩ := h 0 hn
  rw [e] at e'
  cases e'
  exact hl
theorem SyV.low9 {w : World} {s : Sy} {a : SyA} (h : SyV w s a) : SyLow s a w.heap.size := ⟨h.A.low9, h.B.low9, h.C.low9⟩
theorem SyV.far9 {P : Nat → Prop} {w w' : World} {s : Sy} {a : SyA} {B : Nat} (h : SyV w s a) (k : Chg P w w') (hP : ∀ b, P b → B ≤ b) (l : SyLow s a B) : SyV w' s a :=
  ⟨h.A.chg k (fun xb xo e hn _ q => by have := l.1 xb xo e hn; have := hP _ q; omega), h.B.chg k (fun xb xo e hn _ q => by have := l.2.1 xb xo e hn; have := hP _ q; omega), h.C.chg k (fun xb xo e hn _ q => by have := l.2.2 xb xo e hn; have := hP _ q; omega)⟩

end Go.Proofs.YtppiilbcnkphbaaGreat
