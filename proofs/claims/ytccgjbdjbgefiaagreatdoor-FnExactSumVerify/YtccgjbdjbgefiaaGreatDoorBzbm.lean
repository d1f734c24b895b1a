/- Several texts in one: Tables by value (a size and 64 elements): words on memory and laws. No condition but those that each theorem states. · What the program's tables by value answer: cubeFrom, list, onTheWayTo, bound: contracts. Conditions: elements of the greater field, rows that can be read, sizes of at most 64. -/
import Derived.Test.YtccgjbdjbgefiaaGreatDoorBzaf
import Derived.Test.YtccgjbdjbgefiaaGreatDoorBzam
import Derived.Test.YtccgjbdjbgefiaaGreatDoorBzai
import Derived.Laws.CopyRow
import Derived.Laws.CopyOwn
import Derived.Laws.Cover3
namespace Go.Proofs.YtccgjbdjbgefiaaGreatDoor
open Go.ChangeShapes Go.WideShapes Go.ChangeAt Go.RowKit
set_option linter.unusedVariables false
set_option maxRecDepth 100000
set_option linter.unusedSimpArgs false

/-- The cells of a table by value: its size, then its elements. -/
def cv (s : Nat) (t : Nat → El) (i : Nat) : Value := if i = 0 then .int .i64 (s : Int) else if i % 2 = 1 then .int .i64 (t (i / 2)).v.1 else .int .i64 (t (i / 2 - 1)).v.2
theorem cv_0 (s : Nat) (t : Nat → El) : cv s t 0 = .int .i64 (s : Int) := rfl
theorem cv_a (s : Nat) (t : Nat → El) (k : Nat) : cv s t (1 + k * 2) = .int .i64 (t k).v.1 := by
  unfold cv
  rw [if_neg (by omega), if_pos (by omega), show (1 + k * 2) / 2 = k by omega]
theorem cv_b (s : Nat) (t : Nat → El) (k : Nat) : cv s t (1 + k * 2 + 1) = .int .i64 (t k).v.2 := by
  unfold cv
  rw [if_neg (by omega), if_neg (by omega), show (1 + k * 2 + 1) / 2 - 1 = k by omega]
def cb (s : Nat) (t : Nat → El) : Array Value := rowA 129 (cv s t)
/-- A table by value in block b. -/
def Cub (w : World) (b s : Nat) (t : Nat → El) : Prop := w.rowIs b 157 129 (cv s t)
theorem Cub.new (w : World) (s : Nat) (t : Nat → El) : Cub (w.alloc (.cells (cb s t) 157)) w.heap.size s t := rowIs_new w 129 (cv s t) _
theorem Cub.at_ (w : World) (g : Nat) (hg : g = w.heap.size) (s : Nat) (t : Nat → El) : Cub (w.alloc (.cells (cb s t) 157)) g s t := by subst hg; exact Cub.new w s t
theorem Cub.keep {w w' : World} {b s : Nat} {t : Nat → El} (h : Cub w b s t) (k : Chg nob w w') : Cub w' b s t := rowIs_keep h k
theorem Cub.chg {P : Nat → Prop} {w w' : World} {b s : Nat} {t : Nat → El} (h : Cub w b s t) (k : Chg P w w') (hp : ¬ P b) : Cub w' b s t := rowIs_chg h k hp
theorem Cub.lt {w : World} {b s : Nat} {t : Nat → El} (h : Cub w b s t) : b < w.heap.size := World.rowIs.lt h
theorem Cub.c {w : World} {b s : Nat} {t : Nat → El} (h : Cub w b s t) : w.cell? ⟨b, 0, none⟩ = some (.int .i64 (s : Int)) := World.rowIs.cell h (by omega)
theorem Cub.c0 {w : World} {b s : Nat} {t : Nat → El} (h : Cub w b s t) {k : Nat} (hk : k < 64) : w.cell? ⟨b, 1 + k * 2, none⟩ = some (.int .i64 (t k).v.1) := by rw [World.rowIs.cell h (by omega), cv_a]
theorem Cub.c1 {w : World} {b s : Nat} {t : Nat → El} (h : Cub w b s t) {k : Nat} (hk : k < 64) : w.cell? ⟨b, 1 + k * 2 + 1, none⟩ = some (.int .i64 (t k).v.2) := by rw [World.rowIs.cell h (by omega), cv_b]
theorem Cub.fz {w : World} {b s : Nat} {t : Nat → El} (h : Cub w b s t) (o : Nat) : w.frozen? ⟨b, o, none⟩ = false := World.rowIs.frozen h o
theorem Cub.congr {w : World} {b s : Nat} {t u : Nat → El} (h : Cub w b s t) (e : ∀ i, i < 64 → t i = u i) : Cub w b s u :=
  World.rowIs.congr h (fun i hi => by
    unfold cv
    by_cases h0 : i = 0
    · rw [if_pos h0, if_pos h0]
    · rw [if_neg h0, if_neg h0, e (i / 2 - 1) (by omega)]
      by_cases h1 : i % 2 = 1
      · rw [if_pos h1, if_pos h1, e (i / 2) (by omega)]
      · rw [if_neg h1, if_neg h1])
theorem Cub.set {w : World} {b s : Nat} {t : Nat → El} (h : Cub w b s t) (k : Nat) (x : El) : Cub ((w.setCell ⟨b, 1 + k * 2, none⟩ (.int .i64 x.v.1)).setCell ⟨b, 1 + k * 2 + 1, none⟩ (.int .i64 x.v.2)) b s (upE t k x) :=
  World.rowIs.congr (World.rowIs.set (World.rowIs.set h (1 + k * 2) _) (1 + k * 2 + 1) _) (fun i hi => by
    by_cases e1 : i = 1 + k * 2 + 1
    · subst e1; rw [if_pos rfl, cv_b]; unfold upE; rw [if_pos rfl]
    · rw [if_neg e1]
      by_cases e2 : i = 1 + k * 2
      · subst e2; rw [if_pos rfl, cv_a]; unfold upE; rw [if_pos rfl]
      · rw [if_neg e2]
        unfold cv upE
        by_cases h0 : i = 0
        · rw [if_pos h0, if_pos h0]
        · rw [if_neg h0, if_neg h0]
          by_cases h1 : i % 2 = 1
          · rw [if_pos h1, if_pos h1, if_neg (by omega)]
          · rw [if_neg h1, if_neg h1, if_neg (by omega)])
theorem Cub.size {w : World} {b s : Nat} {t : Nat → El} (h : Cub w b s t) (s' : Nat) : Cub (w.setCell ⟨b, 0, none⟩ (.int .i64 (s' : Int))) b s' t :=
  World.rowIs.congr (World.rowIs.set h 0 _) (fun i hi => by
    unfold cv
    by_cases h0 : i = 0
    · rw [if_pos h0, if_pos h0]
    · rw [if_neg h0, if_neg h0, if_neg h0])
theorem Cub.pairs {w : World} {b s : Nat} {t : Nat → El} (h : Cub w b s t) {n : Nat} (hn : n ≤ 64) : PairE w (some ⟨b, 1, none⟩) n t := fun i hi =>
  ⟨b, 1, rfl, h.lt, h.c0 (by omega), h.c1 (by omega)⟩

theorem Cub.other {w : World} {b g s : Nat} {t : Nat → El} (h : Cub w b s t) (hne : b ≠ g) (o o' : Nat) (u v : Value) : Cub ((w.setCell ⟨g, o, none⟩ u).setCell ⟨g, o', none⟩ v) b s t :=
  World.rowIs.setOther (a := ⟨g, o', none⟩) (World.rowIs.setOther (a := ⟨g, o, none⟩) h hne u) hne v

section
variable {ops : Array Oper} {rest : List Oper} {o : Oper} {a : Act} {w : World} {Q : Exit → Act → World → Prop}
end

end Go.Proofs.YtccgjbdjbgefiaaGreatDoor

namespace Go.Proofs.YtccgjbdjbgefiaaGreatDoor
open Go.ChangeShapes Go.WideShapes Go.ChangeAt Go.RowKit
set_option linter.unusedVariables false
set_option maxRecDepth 100000
set_option linter.unusedSimpArgs false


end Go.Proofs.YtccgjbdjbgefiaaGreatDoor
