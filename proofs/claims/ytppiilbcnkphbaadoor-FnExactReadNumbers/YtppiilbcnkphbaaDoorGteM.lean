/- A gate's text: plain. -/
import Derived.Test.YtppiilbcnkphbaaDoorGatM
import Derived.Lib.ItoaNum
namespace Go.Proofs.YtppiilbcnkphbaaDoor
theorem dec_small {n : Nat} (h : n < 10) : Go.Lib.decDigits n = [UInt8.ofNat (48 + n)] := by rw [Go.Lib.decDigits, dif_pos h]
theorem dec_big {n : Nat} (h : ¬ n < 10) : Go.Lib.decDigits n = Go.Lib.decDigits (n / 10) ++ [UInt8.ofNat (48 + n % 10)] := by rw [Go.Lib.decDigits, dif_neg h]
theorem dec_len : ∀ (f n : Nat), n < 10 ^ (f + 1) → (Go.Lib.decDigits n).length ≤ f + 1
  | 0, n, h => by rw [dec_small (by simpa using h)]; simp
  | f + 1, n, h => by
    by_cases q : n < 10
    · rw [dec_small q]; simp
    · rw [dec_big q]
      have := dec_len f (n / 10) (by rw [Nat.pow_succ] at h; omega)
      simp
      omega
theorem ito_nat {z : Int} (h : 0 ≤ z) : Go.Lib.itoa z = Go.Lib.decDigits z.toNat := by
  unfold Go.Lib.itoa
  rw [if_neg (by omega)]

end Go.Proofs.YtppiilbcnkphbaaDoor
