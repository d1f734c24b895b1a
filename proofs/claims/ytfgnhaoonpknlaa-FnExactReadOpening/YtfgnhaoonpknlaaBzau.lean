/- Several texts in one: What the laws' copy of an opening is: a contract. Conditions: an opening that can be read, lengths of at most 2 to the 20. · When an opening has all its parts: words. No condition but those that each theorem states. -/
import Derived.Test.YtfgnhaoonpknlaaBzan
import Derived.Test.YtfgnhaoonpknlaaBzaf
import Derived.Test.YtfgnhaoonpknlaaBzav
namespace Go.Proofs.Ytfgnhaoonpknlaa
open Go.ChangeShapes Go.WideShapes Go.ChangeAt Go.RowKit
set_option linter.unusedVariables false
set_option maxRecDepth 100000
set_option linter.unusedSimpArgs false

/-- An opening that can be read. -/
def OpV (w : World) (o : OD) (cR : Option Addr) (pR : Nat) (cT : Option Addr) (pT : Nat) (cQ : Option Addr) (pQ : Nat) : Prop :=
  o.R.Rep w (.slice cR o.nr pR) ∧ o.S.Rep w (.slice cT o.nt pT) ∧ o.Q.Rep w (.slice cQ o.nq pQ)
theorem OpV.keep {w w' : World} {o : OD} {cR : Option Addr} {pR : Nat} {cT : Option Addr} {pT : Nat} {cQ : Option Addr} {pQ : Nat} (h : OpV w o cR pR cT pT cQ pQ) (k : Chg nob w w') : OpV w' o cR pR cT pT cQ pQ := ⟨h.1.keep k, h.2.1.keep k, h.2.2.keep k⟩
/-- Lengths of at most 2 to the 20. -/
def OD.small (o : OD) : Prop := o.R.small 1048576 ∧ o.S.small 1048576 ∧ o.Q.small 1048576


end Go.Proofs.Ytfgnhaoonpknlaa

namespace Go.Proofs.Ytfgnhaoonpknlaa
open Go.RowKit
set_option linter.unusedVariables false

/-- Of all. -/
def allN (n : Nat) (p : Nat → Bool) : Bool := decide (∀ i, i < n → p i = true)
theorem allN_no {n : Nat} {p : Nat → Bool} {k : Nat} (hk : k < n) (h : p k = false) : allN n p = false := decide_eq_false (fun x => by rw [x k hk] at h; cases h)
theorem allN_yes {n : Nat} {p : Nat → Bool} (h : ∀ i, i < n → p i = true) : allN n p = true := decide_eq_true h
theorem allN_at {n : Nat} {p : Nat → Bool} (h : allN n p = true) {i : Nat} (hi : i < n) : p i = true := of_decide_eq_true h i hi
/-- A hash has 32 bytes. -/
def h32 (s : ByteArray) : Bool := decide (s.size = 32)
def hsB (L : Nat → ByteArray) (n : Nat) : Bool := allN n (fun i => h32 (L i))
/-- A round: three right elements. -/
def r1B (l : Nat) (f g : Nat → Int) : Bool := decide (l = 3) && okP f g l
def rnB (o : OD) (v : Int) : Bool := decide ((o.nr : Int) = v) && allN o.nr (fun i => r1B (o.rl i) (o.rf i) (o.rg i))
/-- Rounds, v of them, each of m right elements. -/
def rfB (m : Nat) (v : Int) (n : Nat) (l : Nat → Nat) (f g : Nat → Nat → Int) : Bool := decide ((n : Int) = v) && allN n (fun i => decide (l i = m) && okP (f i) (g i) (l i))
theorem rfB_3 (o : OD) (v : Int) : rfB 3 v o.nr o.rl o.rf o.rg = rnB o v := rfl
/-- A path. -/
def ptB (v r : Int) (l : Nat) (T : Nat → ByteArray) (j : Nat) : Bool := decide ((l : Int) = v + r - 1 - (j : Int)) && hsB T l
/-- A query. -/
def qrB (q : QD) (v r : Int) : Bool := (decide ((q.np : Int) = 2 * v) && okP q.f q.g q.np && decide ((q.nq : Int) = v)) && allN q.nq (fun j => ptB v r (q.l j) (q.T j) j)
def qsB (o : OD) (v r n : Int) : Bool := decide ((o.nq : Int) = n) && allN o.nq (fun i => qrB (o.q i) v r)
/-- All parts. -/
def ook (o : OD) (v r q g : Int) : Bool := stb r q g && (vrB v && (rnB o v && (decide ((o.nt : Int) = v - 1) && (hsB o.ts o.nt && (eok o.la o.lb && (decide (0 ≤ o.no) && (decide (o.no < 65536) && qsB o v r q)))))))

end Go.Proofs.Ytfgnhaoonpknlaa
