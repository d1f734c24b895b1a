/- Several texts in one: Trees of hashes as plain functions on texts. No program is named here but by what is imported. · What the program's hash of a text is: a contract. Conditions: a text of at most 65536 bytes; the tables hold the shifts and the rounds' constants. · What the model's coefficients, values and products of points answer: contracts. Conditions: elements of the greater field, rows that can be read, tables of at most 64. · What the model's exported calls on tables answer: contracts. Conditions: rows that can be read, lengths of at most 2 to the 40. -/
import Derived.Test.YtkpohajmcngjcaaGreatDoorBzaw
import Derived.Test.YtkpohajmcngjcaaGreatDoorBzau
import Derived.Test.YtkpohajmcngjcaaGreatDoorBzar
import Derived.Test.YtkpohajmcngjcaaGreatDoorBzao
import Derived.Test.YtkpohajmcngjcaaGreatDoorBzas
namespace Go.Proofs.YtkpohajmcngjcaaGreatDoor

/-- The hash of a text. -/
def hsh (s : ByteArray) : ByteArray := bt (lb (hst (pd (zs s) s.size) (s.size / 136 + 1))) 32
theorem hsh_size (s : ByteArray) : (hsh s).size = 32 := bt_size _ _
/-- What is hashed of a leaf, of a node. -/
def lfT (t : ByteArray) : ByteArray := ⟨#[0]⟩ ++ t
def lf (t : ByteArray) : ByteArray := hsh (lfT t)

end Go.Proofs.YtkpohajmcngjcaaGreatDoor

namespace Go.Proofs.YtkpohajmcngjcaaGreatDoor
open Go.ChangeShapes Go.WideShapes Go.ChangeAt Go.RowKit
set_option linter.unusedVariables false
set_option maxRecDepth 100000
set_option linter.unusedSimpArgs false

theorem kh_text (s : ByteArray) (h : s.size ≤ 65536) : kh (zs s) s.size = hsh s := by unfold kh hsh; rw [if_neg (by omega)]


end Go.Proofs.YtkpohajmcngjcaaGreatDoor

namespace Go.Proofs.YtkpohajmcngjcaaGreatDoor
open Go.ChangeShapes Go.WideShapes Go.ChangeAt Go.RowKit
set_option linter.unusedVariables false
set_option maxRecDepth 100000
set_option linter.unusedSimpArgs false

/-- A row that begins with n elements. -/
def RowP (W : World) (b n : Nat) (t : Nat → El) : Prop := ∃ (N : Nat) (H : Nat → Value), W.rowIs b 62 N H ∧ n * 2 ≤ N ∧ ∀ i, i < n * 2 → H i = pf (cA t) (cB t) i
theorem RowP.keep {W W' : World} {b n : Nat} {t : Nat → El} (h : RowP W b n t) (k : Chg nob W W') : RowP W' b n t := by
  obtain ⟨N, H, r, q⟩ := h
  exact ⟨N, H, rowIs_keep r k, q⟩
theorem RowP.lt {W : World} {b n : Nat} {t : Nat → El} (h : RowP W b n t) : b < W.heap.size := by
  obtain ⟨N, H, r, q⟩ := h
  exact r.lt
theorem RowP.c0 {W : World} {b n : Nat} {t : Nat → El} (h : RowP W b n t) {k : Nat} (hk : k < n) : W.cell? ⟨b, k * 2, none⟩ = some (.int .i64 (t k).v.1) := by
  obtain ⟨N, H, r, q, e⟩ := h
  rw [r.cell (by omega), e _ (by omega), pf_even]; rfl
theorem RowP.c1 {W : World} {b n : Nat} {t : Nat → El} (h : RowP W b n t) {k : Nat} (hk : k < n) : W.cell? ⟨b, k * 2 + 1, none⟩ = some (.int .i64 (t k).v.2) := by
  obtain ⟨N, H, r, q, e⟩ := h
  rw [r.cell (by omega), e _ (by omega), pf_odd]; rfl
theorem RowP.fz {W : World} {b n : Nat} {t : Nat → El} (h : RowP W b n t) (o : Nat) : W.frozen? ⟨b, o, none⟩ = false := by
  obtain ⟨N, H, r, q⟩ := h
  exact r.frozen o
theorem RowP.congr {W : World} {b n : Nat} {t u : Nat → El} (h : RowP W b n t) (e : ∀ i, i < n → t i = u i) : RowP W b n u := by
  obtain ⟨N, H, r, q, e'⟩ := h
  exact ⟨N, H, r, q, fun i hi => by rw [e' i hi]; unfold pf cA cB; rw [e (i / 2) (by omega)]⟩
theorem RowP.set {W : World} {b n : Nat} {t : Nat → El} (h : RowP W b n t) (k : Nat) (x : El) : RowP ((W.setCell ⟨b, k * 2, none⟩ (.int .i64 x.v.1)).setCell ⟨b, k * 2 + 1, none⟩ (.int .i64 x.v.2)) b n (upE t k x) := by
  obtain ⟨N, H, r, q, e⟩ := h
  refine ⟨N, _, World.rowIs.set (World.rowIs.set r (k * 2) _) (k * 2 + 1) _, q, fun i hi => ?_⟩
  by_cases e1 : i = k * 2 + 1
  · subst e1; simp [pf_odd, cB, upE]
  · by_cases e2 : i = k * 2
    · subst e2; simp [pf_even, cA, upE]
    · have e3 : ¬ i / 2 = k := by omega
      simp [e1, e2, pf, cA, cB, upE, e3]
      have := e i hi
      unfold pf cA cB at this
      exact this
theorem RowP.own {W : World} {B b n : Nat} {t : Nat → El} (h : RowP W b n t) (hB : B ≤ b) : OwnE W B (some ⟨b, 0, none⟩) n (cA t) (cB t) := by
  obtain ⟨N, H, r, q, e⟩ := h
  exact .inr ⟨b, N, H, rfl, hB, r, q, e⟩


end Go.Proofs.YtkpohajmcngjcaaGreatDoor

namespace Go.Proofs.YtkpohajmcngjcaaGreatDoor
open Go.ChangeShapes Go.WideShapes Go.ChangeAt Go.RowKit
set_option linter.unusedVariables false
set_option maxRecDepth 100000
set_option linter.unusedSimpArgs false


end Go.Proofs.YtkpohajmcngjcaaGreatDoor
