/- Trees in memory: words and laws. No program is walked here. -/
import Derived.Test.YtabioonijjibnabDoorIplM
namespace Go.Proofs.YtabioonijjibnabDoor
open Go.RowKit
set_option linter.unusedVariables false
set_option maxRecDepth 100000

/-- k of n leaves' nodes are made. -/
structure RLf (w W : World) (n k : Nat) (nb : Nat → Nat) (L : Nat → ByteArray) : Prop where
  row : Prow W w.heap.size n (fun j => if j < k then ptr (nb j) else nul)
  new : ∀ j, j < k → w.heap.size < nb j ∧ Nod W (nb j) (lf (L j)) nul nul
  inj : ∀ i j, i < k → j < k → nb i = nb j → i = j
  chg : Chg nob w W
theorem RLf.start (w : World) (n : Nat) (L : Nat → ByteArray) : RLf w (w.alloc (.cells (madeCells #[nul] n) 84)) n 0 (fun _ => 0) L :=
  ⟨World.rowIs.congr (World.rowIs_made w nul n 84) (fun i _ => by rw [if_neg (by omega)]), fun j hj => absurd hj (by omega), fun i j hi => absurd hi (by omega), (Chg.refl _ _).alloc _⟩
theorem RLf.step {w W W1 : World} {n k : Nat} {nb : Nat → Nat} {L : Nat → ByteArray} (h : RLf w W n k nb L) (hk : k < n) (c : Chg nob W W1) :
    RLf w ((W1.setCell ⟨w.heap.size, k, none⟩ (ptr W1.heap.size)).alloc (.cells #[.string (lf (L k)), nul, nul] 86)) n (k + 1) (fun j => if j = k then W1.heap.size else nb j) L := by
  have hrl : w.heap.size < W.heap.size := World.rowIs.lt h.row
  have hsz := c.size
  have r1 : Prow W1 w.heap.size n (fun j => if j < k then ptr (nb j) else nul) := h.row.chg c (fun x => x)
  refine ⟨World.rowIs.alloc (World.rowIs.congr (World.rowIs.set r1 k (ptr W1.heap.size)) (fun i _ => ?_)) _, fun j hj => ?_, fun i j hi' hj' he => ?_, ?_⟩
  · by_cases e : i = k
    · subst e; rw [if_pos rfl, if_pos (by omega), if_pos rfl]
    · rw [if_neg e, if_neg e]
      by_cases e' : i < k
      · rw [if_pos e', if_pos (by omega)]
      · rw [if_neg e', if_neg (by omega)]
  · by_cases e : j = k
    · subst e
      rw [if_pos rfl]
      have q := Nod.new (W1.setCell ⟨w.heap.size, j, none⟩ (ptr W1.heap.size)) (lf (L j))
      rw [show (W1.setCell ⟨w.heap.size, j, none⟩ (ptr W1.heap.size)).heap.size = W1.heap.size by simp] at q
      exact ⟨by omega, q⟩
    · rw [if_neg e]
      have q := h.new j (by omega)
      exact ⟨q.1, World.rowIs.alloc (World.rowIs.setOther (a := ⟨w.heap.size, k, none⟩) (q.2.keep c) (by show ¬ nb j = w.heap.size; omega) _) _⟩
  · by_cases ei : i = k
    · by_cases ej : j = k
      · omega
      · rw [if_pos ei, if_neg ej] at he
        have q := (h.new j (by omega)).2.lt
        omega
    · by_cases ej : j = k
      · rw [if_neg ei, if_pos ej] at he
        have q := (h.new i (by omega)).2.lt
        omega
      · rw [if_neg ei, if_neg ej] at he
        exact h.inj i j (by omega) (by omega) he
  · exact ((h.chg.trans c).setCell (p := ⟨w.heap.size, k, none⟩) (fun q => absurd q (by simp)) _).alloc _

/-- The rows of a tree of 2 to the d leaves up to row j, in memory from B on. -/
structure Tr (B : Nat) (W : World) (L : Nat → ByteArray) (d j : Nat) (hh : Nat → Nat) (nb : Nat → Nat → Nat) : Prop where
  row : ∀ l, l ≤ j → B ≤ hh l ∧ Prow W (hh l) (2 ^ (d - l)) (fun i => ptr (nb l i))
  low : ∀ l i, l ≤ j → i < 2 ^ (d - l) → B ≤ nb l i
  link : ∀ l i, l < j → i < 2 ^ (d - l) → Nod W (nb l i) (lev L l i) (ptr (nb l (sib i))) (ptr (nb (l + 1) (i / 2)))
  top : ∀ i, i < 2 ^ (d - j) → Nod W (nb j i) (lev L j i) nul nul
  inj : ∀ i i', i < 2 ^ (d - j) → i' < 2 ^ (d - j) → nb j i = nb j i' → i = i'
theorem Tr.chg {B : Nat} {P : Nat → Prop} {W W' : World} {L : Nat → ByteArray} {d j : Nat} {hh : Nat → Nat} {nb : Nat → Nat → Nat} (h : Tr B W L d j hh nb) (c : Chg P W W') (h1 : ∀ l, l ≤ j → ¬ P (hh l)) (h2 : ∀ l i, l ≤ j → i < 2 ^ (d - l) → ¬ P (nb l i)) : Tr B W' L d j hh nb :=
  ⟨fun l hl => ⟨(h.row l hl).1, (h.row l hl).2.chg c (h1 l hl)⟩, h.low, fun l i hl hi => (h.link l i hl hi).chg c (h2 l i (by omega) hi), fun i hi => (h.top i hi).chg c (h2 j i (Nat.le_refl _) hi), h.inj⟩
theorem Tr.keep {B : Nat} {W W' : World} {L : Nat → ByteArray} {d j : Nat} {hh : Nat → Nat} {nb : Nat → Nat → Nat} (h : Tr B W L d j hh nb) (c : Chg nob W W') : Tr B W' L d j hh nb := h.chg c (fun _ _ x => x) (fun _ _ _ _ x => x)
/-- Each place of a tree is a node. -/
theorem Tr.nod {B : Nat} {W : World} {L : Nat → ByteArray} {d j : Nat} {hh : Nat → Nat} {nb : Nat → Nat → Nat} (h : Tr B W L d j hh nb) {l i : Nat} (hl : l ≤ j) (hi : i < 2 ^ (d - l)) : ∃ s a, Nod W (nb l i) (lev L l i) s a := by
  by_cases e : l = j
  · subst e; exact ⟨_, _, h.top i hi⟩
  · exact ⟨_, _, h.link l i (by omega) hi⟩
theorem Tr.first {w W : World} {L : Nat → ByteArray} {d n : Nat} {nb : Nat → Nat} (h : RLf w W n n nb L) (hn : n = 2 ^ d) : Tr w.heap.size W L d 0 (fun _ => w.heap.size) (fun _ => nb) := by
  subst hn
  refine ⟨fun l hl => ⟨Nat.le_refl _, ?_⟩, fun l i hl hi => ?_, fun l i hl => absurd hl (by omega), fun i hi => (h.new i hi).2, fun i i' hi hi' e => h.inj i i' hi hi' e⟩
  · obtain rfl : l = 0 := by omega
    exact World.rowIs.congr h.row (fun i hi => if_pos hi)
  · obtain rfl : l = 0 := by omega
    have := (h.new i hi).1
    omega
/-- One row more. -/
theorem Tr.next {B : Nat} {W W' : World} {L : Nat → ByteArray} {d j r : Nat} {hh : Nat → Nat} {nb : Nat → Nat → Nat} {nb' : Nat → Nat} (h : Tr B W L d j hh nb) (hB : B ≤ W.heap.size) (hj : j < d) (hr : r = 2 ^ (d - (j + 1))) (k : RAb W W' r r (nb j) nb' (lev L j)) :
    Tr B W' L d (j + 1) (fun l => if l = j + 1 then W.heap.size else hh l) (fun l => if l = j + 1 then nb' else nb l) := by
  have hq : 2 ^ (d - j) = 2 * r := by rw [hr, show d - j = d - (j + 1) + 1 by omega, Nat.pow_succ]; omega
  refine ⟨fun l hl => ?_, fun l i hl hi => ?_, fun l i hl hi => ?_, fun i hi => ?_, fun i i' hi hi' e => ?_⟩
  · by_cases e : l = j + 1
    · subst e
      rw [if_pos rfl, if_pos rfl, ← hr]
      exact ⟨hB, World.rowIs.congr k.row (fun i hi => by rw [if_pos hi])⟩
    · rw [if_neg e, if_neg e]
      have q := h.row l (by omega)
      refine ⟨q.1, q.2.chg k.chg ?_⟩
      rintro ⟨i, hi, e'⟩
      exact (h.top i (by omega)).not_row q.2 e'.symm
  · by_cases e : l = j + 1
    · subst e
      rw [if_pos rfl]
      have := (k.new i (by rw [hr]; exact hi)).1
      omega
    · rw [if_neg e]
      exact h.low l i (by omega) hi
  · by_cases e : l = j
    · subst e
      rw [if_neg (by omega), if_pos rfl]
      exact k.old i (by omega)
    · rw [if_neg (by omega), if_neg (by omega)]
      refine (h.link l i (by omega) hi).chg k.chg ?_
      rintro ⟨i', hi', e'⟩
      exact (h.link l i (by omega) hi).apart (h.top i' (by omega)) e'
  · rw [if_pos rfl]
    exact (k.new i (by rw [hr]; exact hi)).2
  · rw [if_pos rfl] at e
    exact k.inj i i' (by rw [hr]; exact hi) (by rw [hr]; exact hi') e
/-- A row as a value. -/
def rsv (hh : Nat → Nat) (d j : Nat) : Value := .slice (some ⟨hh j, 0, none⟩) (2 ^ (d - j)) (2 ^ (d - j))
/-- The rows of a tree, in new memory. -/
def RwAns (w : World) (L : Nat → ByteArray) (d : Nat) (e : Ending) (w' : World) : Prop :=
  ∃ (g capo : Nat) (hh : Nat → Nat) (nb : Nat → Nat → Nat), e = .returned (.slice (some ⟨g, 0, none⟩) (d + 1) capo) ∧ (∀ j, j ≤ d → w'.cell? ⟨g, j, none⟩ = some (rsv hh d j)) ∧ Tr w.heap.size w' L d d hh nb ∧ Chg nob w w'
end Go.Proofs.YtabioonijjibnabDoor
