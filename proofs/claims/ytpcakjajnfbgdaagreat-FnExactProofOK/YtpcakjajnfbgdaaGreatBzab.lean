/- Several texts in one: Blocks of four cells: laws. No program is named here. · Slices of elements that a call made: words; what is appended to an empty slice; what the laws' marks do. Conditions: rows that can be read, lengths of at most 2 to the 40. -/
import Derived.Test.YtpcakjajnfbgdaaGreatBzaa
import Derived.Test.YtpcakjajnfbgdaaGreatERow
import Derived.ArgAppend
import Derived.Deep.AppendSrc
namespace Go.Proofs.YtpcakjajnfbgdaaGreat
open Go.RowKit
set_option linter.unusedVariables false

section
variable {W : World} {g : Nat} {ty : TypeId} {f : Nat → Value}
end

theorem rowIs_kind {W : World} {b : Nat} {t u : TypeId} {n m : Nat} {f g : Nat → Value} (h : W.rowIs b t n f) (k : W.rowIs b u m g) : t = u := by
  obtain ⟨c, h1, _⟩ := h
  obtain ⟨d, k1, _⟩ := k
  rw [h1] at k1
  cases k1
  rfl

end Go.Proofs.YtpcakjajnfbgdaaGreat

namespace Go.Proofs.YtpcakjajnfbgdaaGreat
open Go.ChangeShapes Go.WideShapes Go.ChangeAt Go.RowKit
set_option linter.unusedVariables false
set_option maxRecDepth 100000
set_option linter.unusedSimpArgs false

/-- n elements behind c in a block of the call's own (not below B), or none. -/
def OwnE (w : World) (B : Nat) (c : Option Addr) (n : Nat) (f g : Nat → Int) : Prop :=
  n = 0 ∨ ∃ (b N : Nat) (h : Nat → Value), c = some ⟨b, 0, none⟩ ∧ B ≤ b ∧ w.rowIs b 40 N h ∧ n * 2 ≤ N ∧ ∀ i, i < n * 2 → h i = pf f g i
theorem OwnE.zero {w : World} {B : Nat} {c : Option Addr} {f g : Nat → Int} : OwnE w B c 0 f g := .inl rfl
theorem OwnE.of_row {w : World} {B b n : Nat} {f g : Nat → Int} (h : w.rowIs b 40 (n * 2) (pf f g)) (hB : B ≤ b) : OwnE w B (some ⟨b, 0, none⟩) n f g := .inr ⟨b, n * 2, pf f g, rfl, hB, h, Nat.le_refl _, fun _ _ => rfl⟩
theorem OwnE.pairs {w : World} {B : Nat} {c : Option Addr} {n : Nat} {f g : Nat → Int} (h : OwnE w B c n f g) : PairV w c n f g := by
  rcases h with rfl | ⟨b, N, h, rfl, hB, hr, hN, he⟩
  · intro i hi; omega
  · intro i hi
    refine ⟨b, 0, rfl, hr.lt, ?_, ?_⟩
    · rw [Nat.zero_add, hr.cell (by omega), he _ (by omega), pf_even]
    · rw [Nat.zero_add, hr.cell (by omega), he _ (by omega), pf_odd]
theorem OwnE.low {w : World} {B B' : Nat} {c : Option Addr} {n : Nat} {f g : Nat → Int} (h : OwnE w B c n f g) (hB : B' ≤ B) : OwnE w B' c n f g := by
  rcases h with rfl | ⟨b, N, h, e, hb, r⟩
  · exact .inl rfl
  · exact .inr ⟨b, N, h, e, by omega, r⟩
theorem OwnE.congr {w : World} {B : Nat} {c : Option Addr} {n : Nat} {f g f' g' : Nat → Int} (h : OwnE w B c n f g) (e : ∀ i, i < n → f i = f' i ∧ g i = g' i) : OwnE w B c n f' g' := by
  rcases h with rfl | ⟨b, N, h, ec, hb, hr, hN, he⟩
  · exact .inl rfl
  · refine .inr ⟨b, N, h, ec, hb, hr, hN, fun i hi => ?_⟩
    rw [he i hi]
    unfold pf
    rw [(e (i / 2) (by omega)).1, (e (i / 2) (by omega)).2]
theorem OwnE.chg {P : Nat → Prop} {w w' : World} {B : Nat} {c : Option Addr} {n : Nat} {f g : Nat → Int} (h : OwnE w B c n f g) (k : Chg P w w') (hp : ∀ b, B ≤ b → c = some ⟨b, 0, none⟩ → ¬ P b) : OwnE w' B c n f g := by
  rcases h with rfl | ⟨b, N, h, e, hb, hr, r⟩
  · exact .inl rfl
  · exact .inr ⟨b, N, h, e, hb, rowIs_chg hr k (hp b hb e), r⟩
theorem OwnE.keep {w w' : World} {B : Nat} {c : Option Addr} {n : Nat} {f g : Nat → Int} (h : OwnE w B c n f g) (k : Chg nob w w') : OwnE w' B c n f g := h.chg k (fun _ _ _ x => x)

section
variable {P : Program}
end

/-- The block of elements behind c. -/
def Mkb (w : World) (B : Nat) (c : Option Addr) (b : Nat) : Prop := B ≤ b ∧ c = some ⟨b, 0, none⟩ ∧ ∃ N h, w.rowIs b 40 N h
theorem Mkb.not {w : World} {B : Nat} {c : Option Addr} {b : Nat} {t : TypeId} {n : Nat} {f : Nat → Value} (h : w.rowIs b t n f) (ht : t ≠ 40) : ¬ Mkb w B c b := fun ⟨_, _, _, _, k⟩ => ht (rowIs_kind h k)
theorem Mkb.back {w : World} {B : Nat} {c : Option Addr} {i : Nat} {v : Array Value} {t : TypeId} (ht : t ≠ 40) (m : Mkb (w.alloc (.cells v t)) B c i) : Mkb w B c i := by
  obtain ⟨hb, hc, N, h, r⟩ := m
  by_cases e : i < w.heap.size
  · exact ⟨hb, hc, N, h, r.of_block (Go.Deep.blk_alloc_lt w _ i e).symm⟩
  · obtain ⟨d, r1, _⟩ := r
    have hl : i < (w.alloc (.cells v t)).heap.size := (Array.getElem?_eq_some_iff.1 r1).1
    simp at hl
    obtain rfl : i = w.heap.size := by omega
    rw [Go.Deep.blk_alloc_new] at r1
    cases r1
    exact absurd rfl ht


end Go.Proofs.YtpcakjajnfbgdaaGreat
