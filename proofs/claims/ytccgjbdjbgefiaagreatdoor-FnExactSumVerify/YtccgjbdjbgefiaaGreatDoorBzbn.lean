/- Several texts in one: What the program's tables by value answer: onTheWayTo, bound, likeness: contracts. Conditions: elements of the greater field, sizes of at most 64. · Tables by value in rows: words on memory; calls through function values: a law. No condition but those that each theorem states. -/
import Derived.Test.YtccgjbdjbgefiaaGreatDoorBzbm
import Derived.Test.YtccgjbdjbgefiaaGreatDoorBzaf
import Derived.Test.YtccgjbdjbgefiaaGreatDoorBzai
import Derived.Deep.MidRow
import Derived.Laws.EntriesVeiled
namespace Go.Proofs.YtccgjbdjbgefiaaGreatDoor
open Go.ChangeShapes Go.WideShapes Go.ChangeAt Go.RowKit
set_option linter.unusedVariables false
set_option maxRecDepth 100000
set_option linter.unusedSimpArgs false


end Go.Proofs.YtccgjbdjbgefiaaGreatDoor

namespace Go.Proofs.YtccgjbdjbgefiaaGreatDoor
open Go.ChangeShapes Go.WideShapes Go.ChangeAt Go.RowKit
set_option linter.unusedVariables false
set_option maxRecDepth 100000
set_option linter.unusedSimpArgs false

/-- Table i of a row has size S i and the elements T i: its cells. -/
def cvs (S : Nat → Nat) (T : Nat → Nat → El) (i : Nat) : Value := cv (S (i / 129)) (T (i / 129)) (i % 129)
theorem cvs_at (S : Nat → Nat) (T : Nat → Nat → El) (k j : Nat) (hj : j < 129) : cvs S T (k * 129 + j) = cv (S k) (T k) j := by
  unfold cvs
  rw [show (k * 129 + j) / 129 = k by omega, show (k * 129 + j) % 129 = j by omega]
theorem cv_congr {s i : Nat} {t u : Nat → El} (hi : i < 129) (e : ∀ j, j < 64 → t j = u j) : cv s t i = cv s u i := by
  unfold cv
  by_cases h0 : i = 0
  · rw [if_pos h0, if_pos h0]
  · rw [if_neg h0, if_neg h0, e (i / 2 - 1) (by omega)]
    by_cases h1 : i % 2 = 1
    · rw [if_pos h1, if_pos h1, e (i / 2) (by omega)]
    · rw [if_neg h1, if_neg h1]
/-- n tables by value in block b. -/
def Cbs (w : World) (b n : Nat) (S : Nat → Nat) (T : Nat → Nat → El) : Prop := w.rowIs b 157 (n * 129) (cvs S T)
section
variable {w w' : World} {b n : Nat} {S S' : Nat → Nat} {T T' : Nat → Nat → El}
theorem Cbs.keep (h : Cbs w b n S T) (k : Chg nob w w') : Cbs w' b n S T := rowIs_keep h k
theorem Cbs.chg {P : Nat → Prop} (h : Cbs w b n S T) (k : Chg P w w') (hp : ¬ P b) : Cbs w' b n S T := rowIs_chg h k hp
theorem Cbs.lt (h : Cbs w b n S T) : b < w.heap.size := World.rowIs.lt h
theorem Cbs.fz (h : Cbs w b n S T) (o : Nat) : w.frozen? ⟨b, o, none⟩ = false := World.rowIs.frozen h o
theorem Cbs.cell (h : Cbs w b n S T) {k j : Nat} (hk : k < n) (hj : j < 129) : w.cell? ⟨b, k * 129 + j, none⟩ = some (cv (S k) (T k) j) := by
  rw [World.rowIs.cell h (by omega), cvs_at S T k j hj]
theorem Cbs.c (h : Cbs w b n S T) {k : Nat} (hk : k < n) : w.cell? ⟨b, k * 129, none⟩ = some (.int .i64 (S k : Int)) := by
  have q := h.cell (j := 0) hk (by omega)
  rw [Nat.add_zero, cv_0] at q
  exact q
theorem Cbs.c0 (h : Cbs w b n S T) {k j : Nat} (hk : k < n) (hj : j < 64) : w.cell? ⟨b, k * 129 + 1 + j * 2, none⟩ = some (.int .i64 (T k j).v.1) := by
  rw [Nat.add_assoc, h.cell hk (by omega), cv_a]
theorem Cbs.c1 (h : Cbs w b n S T) {k j : Nat} (hk : k < n) (hj : j < 64) : w.cell? ⟨b, k * 129 + 1 + j * 2 + 1, none⟩ = some (.int .i64 (T k j).v.2) := by
  rw [Nat.add_assoc, Nat.add_assoc, ← Nat.add_assoc 1, h.cell hk (by omega), cv_b]
theorem Cbs.congr (h : Cbs w b n S T) (e1 : ∀ i, i < n → S i = S' i) (e2 : ∀ i, i < n → ∀ j, j < 64 → T i j = T' i j) : Cbs w b n S' T' :=
  World.rowIs.congr h (fun i hi => by
    unfold cvs
    have hi' : i / 129 < n := by omega
    rw [e1 _ hi', cv_congr (Nat.mod_lt i (by omega)) (e2 _ hi')])
theorem Cbs.range (h : Cbs w b n S T) {k : Nat} (hk : k < n) : w.rangeAt b (k * 129) (cb (S k) (T k)).toList := fun j v hv => by
  have hj : j < 129 := by
    have := (List.getElem?_eq_some_iff.1 hv).1
    rw [Array.length_toList, cb, rowA_size] at this
    exact this
  rw [h.cell hk hj]
  rw [Array.getElem?_toList, cb, rowA_at 129 _ j hj] at hv
  exact hv
theorem Cbs.there (h : Cbs w b n S T) {k : Nat} (hk : k < n) (s : Nat) (t : Nat → El) : w.there b (k * 129) (cb s t).size := fun j hj => by
  rw [cb, rowA_size] at hj
  exact ⟨by rw [h.cell hk hj]; rfl, h.fz _⟩
theorem cb_len (s : Nat) (t : Nat → El) : (cb s t).toList.length = 129 := by rw [Array.length_toList, cb, rowA_size]
theorem rowIs_cells {b : Nat} {t : TypeId} {n : Nat} : ∀ (vs : List Value) (o : Nat) (w : World) (f : Nat → Value), w.rowIs b t n f → (w.setCells b o vs).rowIs b t n (fun j => if o ≤ j ∧ j < o + vs.length then vs[j - o]?.getD undef else f j)
  | [], o, w, f, h => World.rowIs.congr h (fun j _ => by rw [if_neg (by simp)])
  | v :: r, o, w, f, h => by
    refine World.rowIs.congr (rowIs_cells r (o + 1) _ _ (World.rowIs.set h o v)) (fun j _ => ?_)
    by_cases q : j = o
    · subst q
      rw [if_neg (by omega), if_pos rfl, if_pos (show j ≤ j ∧ j < j + (v :: r).length from ⟨Nat.le_refl _, by simp⟩), Nat.sub_self]
      rfl
    · by_cases q2 : o + 1 ≤ j ∧ j < o + 1 + r.length
      · rw [if_pos q2, if_pos ⟨by omega, by simp only [List.length_cons]; omega⟩, show j - o = (j - (o + 1)) + 1 by omega, List.getElem?_cons_succ]
      · rw [if_neg q2, if_neg q, if_neg (by simp only [List.length_cons]; omega)]
theorem Cbs.put (h : Cbs w b n S T) {k : Nat} (hk : k < n) (s : Nat) (t : Nat → El) : Cbs (w.setCells b (k * 129) (cb s t).toList) b n (fun i => if i = k then s else S i) (fun i => if i = k then t else T i) :=
  World.rowIs.congr (rowIs_cells _ _ _ _ h) (fun i hi => by
    rw [cb_len]
    unfold cvs
    dsimp only
    by_cases q : i / 129 = k
    · rw [if_pos (by omega), if_pos q, if_pos q, Array.getElem?_toList, cb, rowA_at 129 _ _ (by omega), show i - k * 129 = i % 129 by omega]
      rfl
    · rw [if_neg (by omega), if_neg q, if_neg q])
end
section
variable {ops : Array Oper} {rest : List Oper} {o : Oper} {a : Act} {w : World} {Q : Exit → Act → World → Prop}
end
section
variable {P : Program} {ops : Array Oper} {o : Oper} {a : Act} {w : World} {K : Act → World → Prop} {Q : Exit → Act → World → Prop} {E : Prop}
end

end Go.Proofs.YtccgjbdjbgefiaaGreatDoor
