/- What is public and what is not, of a circuit's values: plain. -/
import Derived.Test.YtgimmmmiodlepabDoorRunM
namespace Go.Proofs.YtgimmmmiodlepabDoor
/-- The values of the first k gates that are not public, by their order. -/
def prF (G : Nat → Gt) (V : Nat → Int) : Nat → Nat → Int
  | 0, _ => 0
  | k + 1, j => if ¬ (G k).1 = 2 ∧ j = k - ctg 2 k G then V k else prF G V k j
theorem prF_pub {G : Nat → Gt} {V : Nat → Int} {k : Nat} (h : (G k).1 = 2) (j : Nat) : prF G V k j = prF G V (k + 1) j := by
  show _ = if ¬ (G k).1 = 2 ∧ j = k - ctg 2 k G then V k else prF G V k j
  rw [if_neg (fun q => q.1 h)]
theorem prF_oth {G : Nat → Gt} {V : Nat → Int} {k : Nat} (h : ¬ (G k).1 = 2) (j : Nat) : (if j = k - ctg 2 k G then V k else prF G V k j) = prF G V (k + 1) j := by
  show _ = if ¬ (G k).1 = 2 ∧ j = k - ctg 2 k G then V k else prF G V k j
  by_cases e : j = k - ctg 2 k G
  · rw [if_pos e, if_pos ⟨h, e⟩]
  · rw [if_neg e, if_neg (fun q => e q.2)]
theorem rvl_pub {G : Nat → Gt} {P I : Nat → Int} {n k : Nat} (hk : k < n) (h : (G k).1 = 2) : rvl G P I n k = P (ctg 2 k G) := by
  rw [rvl_st G P I (Nat.lt_succ_self k) (by omega), rvl_s, if_pos rfl]
  unfold rvk
  rw [if_neg (by omega), if_pos h]
theorem prF_congr {G : Nat → Gt} {V U : Nat → Int} : ∀ {k : Nat}, (∀ i, i < k → V i = U i) → ∀ j, prF G V k j = prF G U k j
  | 0, _, _ => rfl
  | k + 1, e, j => by
    show (if ¬ (G k).1 = 2 ∧ j = k - ctg 2 k G then V k else prF G V k j) = if ¬ (G k).1 = 2 ∧ j = k - ctg 2 k G then U k else prF G U k j
    rw [e k (by omega), prF_congr (fun i hi => e i (by omega))]
end Go.Proofs.YtgimmmmiodlepabDoor
