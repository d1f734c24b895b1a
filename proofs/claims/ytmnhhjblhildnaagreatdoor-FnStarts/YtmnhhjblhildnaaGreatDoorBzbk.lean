/- Several texts in one: What the model's bound tables and its rounds answer: contracts. Conditions: tables of at most 64 values that can be read. · Three matrices' tables, their rows bound, put together: plain. · What the model's bound table answers: a contract. Conditions: a right system, right elements, as many as its rows. · What the model's BoundTable answers: a contract. Conditions: rows that can be read, lengths of at most 2 to the 40. -/
import Derived.Test.YtmnhhjblhildnaaGreatDoorBzbj
import Derived.Test.YtmnhhjblhildnaaGreatDoorBzan
import Derived.Test.YtmnhhjblhildnaaGreatDoorBzav
import Derived.Test.YtmnhhjblhildnaaGreatDoorBzas
import Derived.Test.YtmnhhjblhildnaaGreatDoorBzar
import Derived.Test.YtmnhhjblhildnaaGreatDoorBzap
import Derived.Test.YtmnhhjblhildnaaGreatDoorBzae
namespace Go.Proofs.YtmnhhjblhildnaaGreatDoor
open Go.ChangeShapes Go.WideShapes Go.ChangeAt Go.RowKit
set_option linter.unusedVariables false
set_option maxRecDepth 100000
set_option linter.unusedSimpArgs false


end Go.Proofs.YtmnhhjblhildnaaGreatDoor

namespace Go.Proofs.YtmnhhjblhildnaaGreatDoor
set_option linter.unusedVariables false

/-- The first k entries of a matrix put into a table: r times the value times the row's share, at the column. -/
def btE (e : Nat → El) (r : El) (X : Nat → En) (T : Nat → El) : Nat → Nat → El
  | 0, j => T j
  | k + 1, j => if j = (X k).2.1.toNat then El.ad (btE e r X T k j) (El.ml r (El.ml (El.ofi (X k).2.2) (e (X k).1.toNat))) else btE e r X T k j
/-- The table behind the first k matrices. -/
def btK (s : Sy) (e : Nat → El) (r : Nat → El) : Nat → Nat → El
  | 0 => fun _ => El.zr
  | k + 1 => btE e (r k) (pk3 s.XA s.XB s.XC k) (btK s e r k) (pk3 s.nA s.nB s.nC k)
theorem btE_congr {e e' : Nat → El} {r r' : El} {X : Nat → En} {T T' : Nat → El} (hr : r = r') (hT : ∀ j, T j = T' j) : ∀ {n : Nat}, (∀ i, i < n → e (X i).1.toNat = e' (X i).1.toNat) → ∀ j, btE e r X T n j = btE e' r' X T' n j
  | 0, _, j => hT j
  | n + 1, h, j => by
    unfold btE
    rw [btE_congr hr hT (fun i hi => h i (by omega)) j, h n (by omega), hr]
theorem btK_congr {s : Sy} {e e' : Nat → El} {r : Nat → El} (h : ∀ k i, i < pk3 s.nA s.nB s.nC k → e (pk3 s.XA s.XB s.XC k i).1.toNat = e' (pk3 s.XA s.XB s.XC k i).1.toNat) : ∀ k j, btK s e r k j = btK s e' r k j
  | 0, _ => rfl
  | k + 1, j => by
    unfold btK
    exact btE_congr rfl (btK_congr h k) (fun i hi => h k i hi) j
/-- What is told of a system, a point and three elements. -/
def bdc (s : Sy) (n : Nat) (f g u v : Nat → Int) : Int := if 4096 < n then 2 else if sysb s = false ∨ okP f g n = false ∨ okP u v 3 = false then 1 else if ¬ (n : Int) = s.r then 8 else 0
def bdn (s : Sy) (n : Nat) (f g u v : Nat → Int) : Nat := if bdc s n f g u v = 0 then 2 ^ s.q.toNat else 0
def bdv (s : Sy) (n : Nat) (f g u v : Nat → Int) : Nat → El := btK s (El.eqp (elF f g) n) (elF u v) 3
/-- Columns of right entries. -/
theorem win_col {s : Sy} (h : sysb s = true) {k i : Nat} (hi : i < pk3 s.nA s.nB s.nC k) : ∃ ri ci : Nat, (pk3 s.XA s.XB s.XC k i).1 = (ri : Int) ∧ (pk3 s.XA s.XB s.XC k i).2.1 = (ci : Int) ∧ ri < 2 ^ s.r.toNat ∧ ci < 2 ^ s.q.toNat ∧ 1 ≤ (pk3 s.XA s.XB s.XC k i).2.2 ∧ (pk3 s.XA s.XB s.XC k i).2.2 < 2130706433 := by
  obtain ⟨rr, mm, er, eq_, r1, r5, m1, m4, p0, p1, hA, hB, hC⟩ := sysb_parts h
  have key : win (2 ^ rr) (2 ^ (mm + 1)) (pk3 s.XA s.XB s.XC k i) = true := by
    unfold pk3 at hi ⊢
    split at hi
    · exact (elm_parts hA).2 i hi
    · exact (elm_parts hB).2 i hi
    · exact (elm_parts hC).2 i hi
  obtain ⟨ri, ci, e1, e2, h1, h2, v0, v1⟩ := win_nat key
  have c1 := pow_cast rr
  have c2 := pow_cast (mm + 1)
  refine ⟨ri, ci, e1, e2, ?_, ?_, v0, v1⟩
  · rw [er, Int.toNat_natCast]; omega
  · rw [eq_, Int.toNat_natCast]; omega

end Go.Proofs.YtmnhhjblhildnaaGreatDoor

namespace Go.Proofs.YtmnhhjblhildnaaGreatDoor
open Go.ChangeShapes Go.WideShapes Go.ChangeAt Go.RowKit
set_option linter.unusedVariables false
set_option maxRecDepth 100000
set_option linter.unusedSimpArgs false

theorem SyV.at_ {W : World} {s : Sy} {a : SyA} (h : SyV W s a) (k : Nat) : EntV W (pk3 a.cA a.cB a.cC k) (pk3 s.nA s.nB s.nC k) (pk3 s.XA s.XB s.XC k) := by
  unfold pk3
  split
  · exact h.A
  · exact h.B
  · exact h.C


end Go.Proofs.YtmnhhjblhildnaaGreatDoor

namespace Go.Proofs.YtmnhhjblhildnaaGreatDoor
open Go.ChangeShapes Go.WideShapes Go.ChangeAt Go.RowKit
set_option linter.unusedVariables false
set_option maxRecDepth 100000
set_option linter.unusedSimpArgs false


end Go.Proofs.YtmnhhjblhildnaaGreatDoor
