/- Several texts in one: Gates and circuits as plain data: which are right, how many of a kind there are. No program is named here. · A gate's text: plain. -/
import Derived.Below
import Derived.Lib.ItoaNum
namespace Go.Proofs.YtpndbkgjdnkmcaaDoor

/-- A gate: what it does, two places, a number. -/
abbrev Gt := Int × Int × Int × Int
/-- How many places a gate of a kind uses. -/
def usg (o : Int) : Int := if 4 ≤ o ∧ o ≤ 7 then 2 else if o = 8 then 1 else 0
/-- What a gate has is below a bound, what it has not is 0. -/
def ptb (n : Int) (has : Bool) (m : Int) : Bool := decide (0 ≤ n) && decide (n < if has then m else 1)
/-- A gate is right that may use the first m places. -/
def gtb (m : Int) (g : Gt) : Bool := (decide (1 ≤ g.1) && decide (g.1 ≤ 8)) && (ptb g.2.1 (decide (0 < usg g.1)) m && (ptb g.2.2.1 (decide (1 < usg g.1)) m && ptb g.2.2.2 (decide (g.1 = 3)) 2130706433))


end Go.Proofs.YtpndbkgjdnkmcaaDoor

namespace Go.Proofs.YtpndbkgjdnkmcaaDoor
/-- The words of the kinds of gates. -/
def gwd (o : Int) : List UInt8 := ([[], [105, 110, 112, 117, 116], [112, 117, 98, 108, 105, 99], [99, 111, 110, 115, 116], [97, 100, 100], [115, 117, 98], [109, 117, 108], [101, 113, 117, 97, 108], [98, 105, 116]] : List (List UInt8)).getD o.toNat []
/-- How many numbers stand behind the word; these. -/
def gnn (o : Int) : Nat := if o = 3 then 1 else (usg o).toNat
theorem dec_small {n : Nat} (h : n < 10) : Go.Lib.decDigits n = [UInt8.ofNat (48 + n)] := by rw [Go.Lib.decDigits, dif_pos h]
theorem dec_big {n : Nat} (h : ¬ n < 10) : Go.Lib.decDigits n = Go.Lib.decDigits (n / 10) ++ [UInt8.ofNat (48 + n % 10)] := by rw [Go.Lib.decDigits, dif_neg h]
theorem dec_len : ∀ (f n : Nat), n < 10 ^ (f + 1) → (Go.Lib.decDigits n).length ≤ f + 1
  | 0, n, h => by rw [dec_small (by simpa using h)]; simp
  | f + 1, n, h => by
    by_cases q : n < 10
    · rw [dec_small q]; simp
    · rw [dec_big q]
      have := dec_len f (n / 10) (by rw [Nat.pow_succ] at h; omega)
      simp
      omega
theorem ito_nat {z : Int} (h : 0 ≤ z) : Go.Lib.itoa z = Go.Lib.decDigits z.toNat := by
  unfold Go.Lib.itoa
  rw [if_neg (by omega)]

end Go.Proofs.YtpndbkgjdnkmcaaDoor
