/- Several texts in one: Gates and circuits as plain data: which are right, how many of a kind there are. No program is named here. · A gate's text: plain. -/
import Derived.Below
import Derived.Lib.ItoaNum
namespace Go.Proofs.YtpndbkgjdnkmcaaDoor

/-- A gate: what it does, two places, a number. -/
abbrev Gt := Int × Int × Int × Int
/-- How many places a gate of a kind uses. -/
def usg (o : Int) : Int := if 4 ≤ o ∧ o ≤ 7 then 2 else if o = 8 then 1 else 0
/-- What a gate has is below a bound, what it has not is 0. -/
def ptb (n : Int) (has : Bool) (m : Int) : Bool := decide (0 ≤ n) && decide (n < if has then m else 1)
/-- A gate is right that may use the first m places. -/
def gtb (m : Int) (g : Gt) : Bool := (decide (1 ≤ g.1) && decide (g.1 ≤ 8)) && (ptb g.2.1 (decide (0 < usg g.1)) m && (ptb g.2.2.1 (decide (1 < usg g.1)) m && ptb g.2.2.2 (decide (g.1 = 3)) 2130706433))
/-- How many of the first n are of a kind. -/
def ctg (o : Int) : Nat → (Nat → Gt) → Nat
  | 0, _ => 0
  | n + 1, G => ctg o n G + if (G n).1 = o then 1 else 0

theorem ctg_le (o : Int) (G : Nat → Gt) : ∀ n, ctg o n G ≤ n
  | 0 => Nat.le_refl _
  | n + 1 => by have := ctg_le o G n; unfold ctg; split <;> omega
theorem ctg_s (o : Int) (n : Nat) (G : Nat → Gt) : ctg o (n + 1) G = ctg o n G + if (G n).1 = o then 1 else 0 := rfl

end Go.Proofs.YtpndbkgjdnkmcaaDoor

namespace Go.Proofs.YtpndbkgjdnkmcaaDoor
/-- The words of the kinds of gates. -/
def gwd (o : Int) : List UInt8 := ([[], [105, 110, 112, 117, 116], [112, 117, 98, 108, 105, 99], [99, 111, 110, 115, 116], [97, 100, 100], [115, 117, 98], [109, 117, 108], [101, 113, 117, 97, 108], [98, 105, 116]] : List (List UInt8)).getD o.toNat []
/-- How many numbers stand behind the word; these. -/
def gnn (o : Int) : Nat := if o = 3 then 1 else (usg o).toNat
def gnv (g : Gt) (i : Nat) : Int := if g.1 = 3 then g.2.2.2 else if i = 0 then g.2.1 else g.2.2.1
/-- The word and the first k numbers. -/
def gtl (g : Gt) : Nat → List UInt8
  | 0 => gwd g.1
  | k + 1 => gtl g k ++ (32 :: Go.Lib.itoa (gnv g k))
def gxc (g : Gt) : Int := if gtb 15 g = true then 0 else 1
def gxt (g : Gt) : List UInt8 := if gtb 15 g = true then gtl g (gnn g.1) else []
theorem ba_app (l m : List UInt8) : (⟨l.toArray⟩ : ByteArray) ++ ⟨m.toArray⟩ = ⟨(l ++ m).toArray⟩ := by
  apply ByteArray.ext
  simp [ByteArray.data_append]
theorem gtb_nums {g : Gt} (h : gtb 15 g = true) (i : Nat) : 0 ≤ gnv g i ∧ gnv g i ≤ 2130706433 := by
  unfold gtb at h
  simp only [Bool.and_eq_true] at h
  obtain ⟨_, ha, hb, hk⟩ := h
  unfold ptb at ha hb hk
  simp only [Bool.and_eq_true, decide_eq_true_eq] at ha hb hk
  obtain ⟨a0, a1⟩ := ha
  obtain ⟨b0, b1⟩ := hb
  obtain ⟨k0, k1⟩ := hk
  unfold gnv
  split
  · exact ⟨k0, by split at k1 <;> omega⟩
  · split
    · exact ⟨a0, by split at a1 <;> omega⟩
    · exact ⟨b0, by split at b1 <;> omega⟩
theorem dec_small {n : Nat} (h : n < 10) : Go.Lib.decDigits n = [UInt8.ofNat (48 + n)] := by rw [Go.Lib.decDigits, dif_pos h]
theorem dec_big {n : Nat} (h : ¬ n < 10) : Go.Lib.decDigits n = Go.Lib.decDigits (n / 10) ++ [UInt8.ofNat (48 + n % 10)] := by rw [Go.Lib.decDigits, dif_neg h]
theorem dec_len : ∀ (f n : Nat), n < 10 ^ (f + 1) → (Go.Lib.decDigits n).length ≤ f + 1
  | 0, n, h => by rw [dec_small (by simpa using h)]; simp
  | f + 1, n, h => by
    by_cases q : n < 10
    · rw [dec_small q]; simp
    · rw [dec_big q]
      have := dec_len f (n / 10) (by rw [Nat.pow_succ] at h; omega)
      simp
      omega
theorem ito_nat {z : Int} (h : 0 ≤ z) : Go.Lib.itoa z = Go.Lib.decDigits z.toNat := by
  unfold Go.Lib.itoa
  rw [if_neg (by omega)]
theorem ito_len {z : Int} (h0 : 0 ≤ z) (h1 : z ≤ 2130706433) : (Go.Lib.itoa z).length ≤ 30 := by
  rw [ito_nat h0]
  have := dec_len 9 z.toNat (by show z.toNat < 10000000000; omega)
  omega
theorem gwd_len (o : Int) : (gwd o).length ≤ 10 := by
  unfold gwd
  match o.toNat with
  | 0 => decide
  | 1 => decide
  | 2 => decide
  | 3 => decide
  | 4 => decide
  | 5 => decide
  | 6 => decide
  | 7 => decide
  | 8 => decide
  | n + 9 => simp [List.getD]
theorem gtl_len {g : Gt} (h : ∀ i, 0 ≤ gnv g i ∧ gnv g i ≤ 2130706433) : ∀ k, (gtl g k).length ≤ 10 + 31 * k
  | 0 => gwd_len _
  | k + 1 => by
    have h1 := gtl_len h k
    have h2 := ito_len (h k).1 (h k).2
    show (gtl g k ++ (32 :: Go.Lib.itoa (gnv g k))).length ≤ _
    simp
    omega

end Go.Proofs.YtpndbkgjdnkmcaaDoor
