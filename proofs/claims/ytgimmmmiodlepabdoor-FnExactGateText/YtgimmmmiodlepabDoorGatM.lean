/- Gates and circuits as plain data: which are right, how many of a kind there are. No program is named here. -/
import Derived.Below
namespace Go.Proofs.YtgimmmmiodlepabDoor

/-- A gate: what it does, two places, a number. -/
abbrev Gt := Int × Int × Int × Int
/-- How many places a gate of a kind uses. -/
def usg (o : Int) : Int := if 4 ≤ o ∧ o ≤ 7 then 2 else if o = 8 then 1 else 0
/-- What a gate has is below a bound, what it has not is 0. -/
def ptb (n : Int) (has : Bool) (m : Int) : Bool := decide (0 ≤ n) && decide (n < if has then m else 1)
/-- A gate is right that may use the first m places. -/
def gtb (m : Int) (g : Gt) : Bool := (decide (1 ≤ g.1) && decide (g.1 ≤ 8)) && (ptb g.2.1 (decide (0 < usg g.1)) m && (ptb g.2.2.1 (decide (1 < usg g.1)) m && ptb g.2.2.2 (decide (g.1 = 3)) 2130706433))
/-- How many of the first n are of a kind. -/
def ctg (o : Int) : Nat → (Nat → Gt) → Nat
  | 0, _ => 0
  | n + 1, G => ctg o n G + if (G n).1 = o then 1 else 0
/-- The first n gates are right, each using gates ahead of it alone. -/
def gsb (n : Nat) (G : Nat → Gt) : Bool := (List.range n).all fun i => gtb i (G i)
/-- A circuit is right. -/
def crb (n : Nat) (G : Nat → Gt) : Bool := decide (1 ≤ n ∧ n ≤ 15) && (gsb n G && decide (ctg 2 n G ≤ 7))

theorem ctg_le (o : Int) (G : Nat → Gt) : ∀ n, ctg o n G ≤ n
  | 0 => Nat.le_refl _
  | n + 1 => by have := ctg_le o G n; unfold ctg; split <;> omega
theorem ctg_s (o : Int) (n : Nat) (G : Nat → Gt) : ctg o (n + 1) G = ctg o n G + if (G n).1 = o then 1 else 0 := rfl
theorem gsb_iff {n : Nat} {G : Nat → Gt} : gsb n G = true ↔ ∀ i, i < n → gtb i (G i) = true := by
  simp [gsb, List.all_eq_true]
theorem gsb_no {n i : Nat} {G : Nat → Gt} (hi : i < n) (h : gtb i (G i) = false) : gsb n G = false := by
  cases e : gsb n G with
  | false => rfl
  | true => rw [gsb_iff.1 e i hi] at h; cases h
theorem gsb_s (n : Nat) (G : Nat → Gt) : gsb (n + 1) G = (gsb n G && gtb n (G n)) := by
  simp [gsb, List.range_succ, List.all_append]
theorem crb_ok {n : Nat} {G : Nat → Gt} (h : crb n G = true) : 1 ≤ n ∧ n ≤ 15 ∧ (∀ i, i < n → gtb i (G i) = true) ∧ ctg 2 n G ≤ 7 := by
  unfold crb at h
  simp only [Bool.and_eq_true, decide_eq_true_eq] at h
  exact ⟨h.1.1, h.1.2, gsb_iff.1 h.2.1, h.2.2⟩
theorem usg_cases (o : Int) (h0 : 1 ≤ o) (h1 : o ≤ 8) : o = 1 ∨ o = 2 ∨ o = 3 ∨ o = 4 ∨ o = 5 ∨ o = 6 ∨ o = 7 ∨ o = 8 := by omega
end Go.Proofs.YtgimmmmiodlepabDoor
