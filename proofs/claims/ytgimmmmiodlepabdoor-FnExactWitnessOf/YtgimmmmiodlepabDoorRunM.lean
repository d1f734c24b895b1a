/- What a circuit makes of what it is handed: plain. -/
import Derived.Test.YtgimmmmiodlepabDoorGatM
import Derived.Test.YtgimmmmiodlepabDoorRsmM
namespace Go.Proofs.YtgimmmmiodlepabDoor

/-- The value of gate k, those ahead of it being V. -/
def rvk (G : Nat → Gt) (P I : Nat → Int) (k : Nat) (V : Nat → Int) : Int :=
  if (G k).1 = 1 then I (ctg 1 k G) else if (G k).1 = 2 then P (ctg 2 k G) else if (G k).1 = 3 then (G k).2.2.2
  else if (G k).1 = 4 then (V (G k).2.1.toNat + V (G k).2.2.1.toNat) % 2130706433 else if (G k).1 = 5 then (V (G k).2.1.toNat + 2130706433 - V (G k).2.2.1.toNat) % 2130706433
  else if (G k).1 = 6 then V (G k).2.1.toNat * V (G k).2.2.1.toNat % 2130706433 else V (G k).2.1.toNat
/-- All values of the first n gates. -/
def rvl (G : Nat → Gt) (P I : Nat → Int) : Nat → Nat → Int
  | 0, _ => 0
  | n + 1, j => if j = n then rvk G P I n (rvl G P I n) else rvl G P I n j
/-- What must be at gate k is. -/
def ftk (G : Nat → Gt) (V : Nat → Int) (k : Nat) : Bool := if (G k).1 = 7 then decide (V (G k).2.1.toNat = V (G k).2.2.1.toNat) else if (G k).1 = 8 then decide (V (G k).2.1.toNat ≤ 1) else true
def fts (G : Nat → Gt) (V : Nat → Int) (n : Nat) : Bool := (List.range n).all (ftk G V)
/-- What is told of a circuit and what it is handed. -/
def akr (n : Nat) (G : Nat → Gt) (np : Nat) (P : Nat → Int) (ni : Nat) (I : Nat → Int) : Int := if 4096 < np ∨ 4096 < ni then 2 else if crb n G = false then 19 else if fds np P = false ∨ fds ni I = false then 1 else if ¬ np = ctg 2 n G ∨ ¬ ni = ctg 1 n G then 8 else 0
def rcc (n : Nat) (G : Nat → Gt) (np : Nat) (P : Nat → Int) (ni : Nat) (I : Nat → Int) : Int := if akr n G np P ni I = 0 then (if fts G (rvl G P I n) n = true then 0 else 15) else akr n G np P ni I

/-- A number of the field. -/
def fnb (x : Int) : Prop := 0 ≤ x ∧ x < 2130706433
theorem rvl_s (G : Nat → Gt) (P I : Nat → Int) (n j : Nat) : rvl G P I (n + 1) j = if j = n then rvk G P I n (rvl G P I n) else rvl G P I n j := rfl
theorem rvl_st (G : Nat → Gt) (P I : Nat → Int) {j : Nat} : ∀ {n m : Nat}, j < m → m ≤ n → rvl G P I n j = rvl G P I m j
  | 0, m, h, k => by omega
  | n + 1, m, h, k => by
    by_cases e : m = n + 1
    · rw [e]
    · rw [rvl_s, if_neg (by omega), rvl_st G P I h (by omega)]
/-- A right gate's parts. -/
theorem gtb_op {m : Int} {g : Gt} (h : gtb m g = true) : 1 ≤ g.1 ∧ g.1 ≤ 8 := by
  simp [gtb] at h
  omega
theorem gtb_A {m : Int} {g : Gt} (h : gtb m g = true) (u : 4 ≤ g.1) : 0 ≤ g.2.1 ∧ g.2.1 < m := by
  have ho := gtb_op h
  have e : decide (0 < usg g.1) = true := by
    unfold usg
    split
    · rfl
    · rw [if_pos (by omega)]; rfl
  unfold gtb at h
  rw [e] at h
  simp [ptb] at h
  omega
theorem gtb_B {m : Int} {g : Gt} (h : gtb m g = true) (u : 4 ≤ g.1 ∧ g.1 ≤ 7) : 0 ≤ g.2.2.1 ∧ g.2.2.1 < m := by
  have e : decide (1 < usg g.1) = true := by unfold usg; rw [if_pos u]; rfl
  unfold gtb at h
  rw [e] at h
  simp [ptb] at h
  omega
theorem gtb_K {m : Int} {g : Gt} (h : gtb m g = true) (u : g.1 = 3) : fnb g.2.2.2 := by
  unfold gtb at h
  rw [show decide (g.1 = 3) = true by simp [u]] at h
  simp [ptb] at h
  unfold fnb
  omega
theorem ctg_lt {o : Int} {G : Nat → Gt} : ∀ {n k : Nat}, k < n → (G k).1 = o → ctg o k G < ctg o n G
  | 0, k, h, _ => by omega
  | n + 1, k, h, e => by
    rw [ctg_s]
    by_cases q : k = n
    · subst q; rw [if_pos e]; omega
    · have := ctg_lt (show k < n by omega) e
      split <;> omega
/-- All values are numbers of the field. -/
theorem rvl_fn {n : Nat} {G : Nat → Gt} {np ni : Nat} {P I : Nat → Int} (hg : ∀ i, i < n → gtb i (G i) = true) (hp : np = ctg 2 n G) (hi : ni = ctg 1 n G) (fp : ∀ i, i < np → fnb (P i)) (fi : ∀ i, i < ni → fnb (I i)) : ∀ m, m ≤ n → ∀ j, j < m → fnb (rvl G P I m j)
  | 0, _, j, h => by omega
  | m + 1, hm, j, h => by
    rw [rvl_s]
    have ih := rvl_fn hg hp hi fp fi m (by omega)
    split
    · have g := hg m (by omega)
      have ho := gtb_op g
      unfold rvk
      split
      · rename_i e; exact fi _ (by rw [hi]; exact ctg_lt (by omega) e)
      · split
        · rename_i e; exact fp _ (by rw [hp]; exact ctg_lt (by omega) e)
        · split
          · rename_i e; exact gtb_K g e
          · have hA := gtb_A g (by omega)
            split
            · exact ⟨Int.emod_nonneg _ (by omega), Int.emod_lt_of_pos _ (by omega)⟩
            · split
              · exact ⟨Int.emod_nonneg _ (by omega), Int.emod_lt_of_pos _ (by omega)⟩
              · split
                · exact ⟨Int.emod_nonneg _ (by omega), Int.emod_lt_of_pos _ (by omega)⟩
                · exact ih _ (by omega)
    · exact ih j (by omega)
theorem fts_s (G : Nat → Gt) (V : Nat → Int) (n : Nat) : fts G V (n + 1) = (fts G V n && ftk G V n) := by simp [fts, List.range_succ, List.all_append]
theorem fts_no {G : Nat → Gt} {V : Nat → Int} {n k : Nat} (hk : k < n) (h : ftk G V k = false) : fts G V n = false := by
  rw [fts, List.all_eq_false]
  exact ⟨k, by simpa using hk, by rw [h]; simp⟩
theorem ftk_congr {G : Nat → Gt} {V U : Nat → Int} {k : Nat} (h : gtb k (G k) = true) (e : ∀ j, j < k → V j = U j) : ftk G V k = ftk G U k := by
  have ho := gtb_op h
  unfold ftk
  split
  · rename_i q
    have hA := gtb_A h (by omega)
    have hB := gtb_B h (by omega)
    rw [e _ (by omega), e _ (by omega)]
  · split
    · rename_i q
      have hA := gtb_A h (by omega)
      rw [e _ (by omega)]
    · rfl

/-- Terms: so many times a slot's value; their sum. -/
abbrev Tm := Int × Int
def tsm (V : Nat → Int) : Nat → (Nat → Tm) → Int
  | 0, _ => 0
  | n + 1, t => (tsm V n t + (t n).2 * V (t n).1.toNat) % 2130706433
/-- A row: how many left terms, these; right ones. -/
structure Rw where
  nl : Nat
  L : Nat → Tm
  nr : Nat
  R : Nat → Tm
def rwv (V : Nat → Int) (r : Rw) : Int := tsm V r.nl r.L * tsm V r.nr r.R % 2130706433
/-- A list of terms. -/
def tl1 (x : Tm) : Nat → Tm := fun _ => x
def tl2 (x y : Tm) : Nat → Tm := fun i => if i = 0 then x else y
def one9 : Nat → Tm := tl1 (0, 1)
/-- How many rows a gate has; these. -/
def rwn (o : Int) : Nat := if o = 7 ∨ o = 8 then 2 else if o = 1 ∨ o = 2 then 0 else 1
def rwG (g : Gt) (i : Nat) : Rw :=
  if g.1 = 3 then ⟨1, tl1 (0, g.2.2.2), 1, one9⟩ else if g.1 = 4 then ⟨2, tl2 (g.2.1 + 1, 1) (g.2.2.1 + 1, 1), 1, one9⟩
  else if g.1 = 5 then ⟨2, tl2 (g.2.1 + 1, 1) (g.2.2.1 + 1, 2130706432), 1, one9⟩ else if g.1 = 6 then ⟨1, tl1 (g.2.1 + 1, 1), 1, tl1 (g.2.2.1 + 1, 1)⟩
  else if g.1 = 7 then (if i = 0 then ⟨1, tl1 (g.2.2.1 + 1, 1), 1, one9⟩ else ⟨1, tl1 (g.2.1 + 1, 1), 1, one9⟩)
  else (if i = 0 then ⟨1, tl1 (g.2.1 + 1, 1), 1, tl1 (g.2.1 + 1, 1)⟩ else ⟨1, tl1 (g.2.1 + 1, 1), 1, one9⟩)
/-- Slots: a 1, then the values. -/
def slt (V : Nat → Int) (i : Nat) : Int := if i = 0 then 1 else V (i - 1)
theorem slt_at (V : Nat → Int) {a : Int} (h : 0 ≤ a) : slt V (a + 1).toNat = V a.toNat := by
  unfold slt
  rw [if_neg (by omega), show (a + 1).toNat - 1 = a.toNat by omega]
end Go.Proofs.YtgimmmmiodlepabDoor
